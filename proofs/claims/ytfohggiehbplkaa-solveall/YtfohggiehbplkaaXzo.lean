/-
  What each function of package poly answers, and what the reference of its chapter answers: one contract a function, for every float: the answer stands in the relation of its formula to what was given; of the memory that was there nothing has turned.
-/
import Derived.Test.YtfohggiehbplkaaVec
import Derived.Test.YtfohggiehbplkaaXzn
import Derived.Below
import Derived.Deep.CutRange
import Derived.OwnWalk
import Derived.Laws.AppendOwn
import Derived.Lib.SliceRun
import Derived.Laws.MakeOwn
import Derived.WalkKit
import Derived.WalkLawsBesides
import Derived.WalkSpells
import Derived.ProofKit
import Derived.OpenShut
import Derived.Deep.RegionHeld3
namespace Go.Proofs.Ytfohggiehbplkaa
open Go.ChangeShapes Go.WideShapes Go.ChangeAt Go.RowKit
set_option linter.unusedVariables false
set_option linter.unusedSimpArgs false


theorem Fx.mono3 {g : Nat} {w w' : World} (h : Fx [g] w w') (a : Nat) : Fx [g, a] w w' := ⟨h.os, h.tape, h.output, h.size, fun k hk hn => h.block k hk (fun hm => hn (by simp only [List.mem_singleton] at hm; simp [hm])), h.froz, h.thr⟩
set_option maxRecDepth 100000 in
set_option maxHeartbeats 4000000 in
theorem rall_bad (rb ro rn rc_ : Nat) (rs : Option Addr) (Q : Nat → RD) (sb so sn sc_ : Nat) (ss : Option Addr) (S : Nat → SD) (n : Int) (w : World) (hrs : rn = 0 ∨ rs = some ⟨rb, ro, none⟩) (hrc : rn ≤ rc_) (hrm : rc_ ≤ maxLen) (hr : Rws w rb ro rn Q) (or_ : ∀ i, i < rn → rok (Q i)) (hss : sn = 0 ∨ ss = some ⟨sb, so, none⟩) (hsc : sn ≤ sc_) (hsm : sc_ ≤ maxLen) (hs : Sts w sb so sn S) (os : ∀ i, i < sn → sok (S i)) (er : Int) (he : asE Q rn S sn = er) (h0 : er ≠ 0) : Calls Try.prog 32 #[.slice rs rn rc_, .slice ss sn sc_, .int .i64 n] w fun e w' => e = .returned (.tuple #[.slice none 0 0, .slice none 0 0, .int .i64 er]) ∧ Bel w w' := by
 have h1 : (er == 0) = false := by simp [h0]
 go_enter Try.func32, Try.ntmps32
 repeat (first | (go_at_call 75; (with_reducible refine (asked21 rb ro rn rc_ rs Q sb so sn sc_ ss S _ hrs hrc hrm hr or_ hss hsc hsm hs os).mono ?_); rintro e wA ⟨rfl, hbwA⟩; rw [he]) | go_values | go_skip | go_guarded | go_step | go_upon | go_back | dsimp only)
 refine bodyPost_ret (v := .tuple #[.slice none 0 0, .slice none 0 0, .int .i64 er]) (by kernel_rfl) rfl ?_
 exact ⟨rfl, hbwA⟩
set_option maxRecDepth 100000 in
set_option maxHeartbeats 4000000 in
theorem rall_rounds (rb ro rn rc_ : Nat) (rs : Option Addr) (Q : Nat → RD) (sb so sn sc_ : Nat) (ss : Option Addr) (S : Nat → SD) (n : Int) (w : World) (hrs : rn = 0 ∨ rs = some ⟨rb, ro, none⟩) (hrc : rn ≤ rc_) (hrm : rc_ ≤ maxLen) (hr : Rws w rb ro rn Q) (or_ : ∀ i, i < rn → rok (Q i)) (hss : sn = 0 ∨ ss = some ⟨sb, so, none⟩) (hsc : sn ≤ sc_) (hsm : sc_ ≤ maxLen) (hs : Sts w sb so sn S) (os : ∀ i, i < sn → sok (S i)) (he : asE Q rn S sn = 0) (h0 : n < 0 ∨ 64 < n) : Calls Try.prog 32 #[.slice rs rn rc_, .slice ss sn sc_, .int .i64 n] w fun e w' => e = .returned (.tuple #[.slice none 0 0, .slice none 0 0, .int .i64 210]) ∧ Bel w w' := by
 go_enter Try.func32, Try.ntmps32
 rcases (show n < 0 ∨ (¬ n < 0 ∧ 64 < n) by omega) with h1 | ⟨h1, h2⟩
 all_goals
  repeat (first | (go_at_call 75; (with_reducible refine (asked21 rb ro rn rc_ rs Q sb so sn sc_ ss S _ hrs hrc hrm hr or_ hss hsc hsm hs os).mono ?_); rintro e wA ⟨rfl, hbwA⟩; rw [he]) | go_values | go_skip | go_guarded | go_step | go_upon | go_back | dsimp only)
  refine bodyPost_ret (v := .tuple #[.slice none 0 0, .slice none 0 0, .int .i64 210]) (by kernel_rfl) rfl ?_
  exact ⟨rfl, hbwA⟩
set_option maxRecDepth 100000 in
set_option maxHeartbeats 16000000 in
theorem rall_ok (rb ro rn rc_ : Nat) (rs : Option Addr) (Q : Nat → RD) (sb so sn sc_ : Nat) (ss : Option Addr) (S : Nat → SD) (n : Nat) (w : World) (hrs : rn = 0 ∨ rs = some ⟨rb, ro, none⟩) (hrc : rn ≤ rc_) (hrm : rc_ ≤ maxLen) (hr : Rws w rb ro rn Q) (or_ : ∀ i, i < rn → rok (Q i)) (hss : sn = 0 ∨ ss = some ⟨sb, so, none⟩) (hsc : sn ≤ sc_) (hsm : sc_ ≤ maxLen) (hs : Sts w sb so sn S) (os : ∀ i, i < sn → sok (S i)) (he : asE Q rn S sn = 0) (hn : n ≤ 64) : Calls Try.prog 32 #[.slice rs rn rc_, .slice ss sn sc_, .int .i64 n] w fun e w' => ∃ v1 v2, AllR w w' v1 v2 rn sn (itM Q (fun i => tlS (S i)) rn n).1 (itM Q (fun i => tlS (S i)) rn n).2 ∧ e = .returned (.tuple #[v1, v2, .int .i64 0]) ∧ Bel w w' := by
 obtain ⟨hl1, hl2, hch, hst⟩ := asE_zero he
 obtain ⟨TLf, hTL⟩ : ∃ f : Nat → SD, f = fun i => tlS (S i) := ⟨_, rfl⟩
 rw [← hTL]
 have cg1 := cmp_gt .f64
 unfold maxLen at hrm hsm
 have h1 : ¬ (n : Int) < 0 := by omega
 have h2 : ¬ (64 : Int) < (n : Int) := by omega
 have h00 : 0 < rn → 0 < sn := fun h => by
  have := hch 0 h
  unfold chB mayB at this
  simp only [Bool.and_eq_true, decide_eq_true_eq] at this
  omega
 have hstM : ∀ i, i < sn → stB (TLf i) = true := fun i hi => by rw [hTL]; show stB (tlS (S i)) = true; rw [← (RelS.of (os i hi)).st]; exact hst i hi
 have hapr : ∀ W, Bel w W → ∃ v1 w1, (Builtin.append_ #[30, 30] 30 #[.slice none 0 0, .slice rs rn rc_]).run Try.prog W = .ok v1 w1 ∧ OwnR 14 w.heap.size w1 v1 rn (rowsL Q rn) ∧ Bel W w1 := fun W hW => by
  rcases Nat.eq_zero_or_pos rn with hz | hp
  ·subst hz
   exact ⟨_, _, run_app0n W _ _ _, OwnR.nil _ _ _, bl_refl _⟩
  ·have e9 : rs = some ⟨rb, ro, none⟩ := by rcases hrs with h | h; omega; exact h
   subst e9
   obtain ⟨v', w', a1, a2, _, a4⟩ := run_appR (P := Try.prog) 30 30 43 Try.underlying30 info_row rfl rb ro rn rc_ (OwnR.nil 14 W.heap.size W) (rowsL_len Q rn) (rowsL_rw (hr.bel hW)) (rowsL_one Q rn) hp (Nat.le_refl _) (by unfold maxLen; omega) (by omega)
   simp only [Nat.zero_add, List.nil_append] at a2
   exact ⟨v', w', a1, a2.base9 hW.size, a4 W (bl_refl _) (Nat.le_refl _)⟩
 have haps : ∀ W, Bel w W → ∃ v1 w1, (Builtin.append_ #[61, 61] 61 #[.slice none 0 0, .slice ss sn sc_]).run Try.prog W = .ok v1 w1 ∧ OwnR 5 w.heap.size w1 v1 sn (stL S sn) ∧ Bel W w1 := fun W hW => by
  rcases Nat.eq_zero_or_pos sn with hz | hp
  ·subst hz
   exact ⟨_, _, run_app0m W _ _ _, OwnR.nil _ _ _, bl_refl _⟩
  ·have e9 : ss = some ⟨sb, so, none⟩ := by rcases hss with h | h; omega; exact h
   subst e9
   obtain ⟨v', w', a1, a2, _, a4⟩ := run_appR (P := Try.prog) 61 61 45 Try.underlying61 info_still rfl sb so sn sc_ (OwnR.nil 5 W.heap.size W) (stL_len S sn) (stL_rw (hs.bel hW)) (stL_one S sn) hp (Nat.le_refl _) (by unfold maxLen; omega) (by omega)
   simp only [Nat.zero_add, List.nil_append] at a2
   exact ⟨v', w', a1, a2.base9 hW.size, a4 W (bl_refl _) (Nat.le_refl _)⟩
 go_enter Try.func32, Try.ntmps32
 repeat (first | (go_at_call 75; (with_reducible refine (asked21 rb ro rn rc_ rs Q sb so sn sc_ ss S _ hrs hrc (by unfold maxLen; exact hrm) hr or_ hss hsc (by unfold maxLen; exact hsm) hs os).mono ?_); rintro e wA ⟨rfl, hbA⟩; rw [he]; obtain ⟨v1, w1, hr1, hO1, hB1⟩ := hapr _ hbA; obtain ⟨v2, w2, hr2, hO2, hB2⟩ := haps _ (bl_trans hbA hB1); have B2 := bl_trans (bl_trans hbA hB1) hB2) | ((with_reducible show wpList _ _ _ (⟨some 37, _, _, _, _, _⟩ :: _) _ _); at_builtin; refine wpList_runX 30 rfl (.tmp 35) (.tmp 36) rfl rfl rfl hr1 ?_) | ((with_reducible show wpList _ _ _ (⟨some 40, _, _, _, _, _⟩ :: _) _ _); at_builtin; refine wpList_runX 61 rfl (.tmp 38) (.tmp 39) rfl rfl rfl hr2 ?_) | go_values | go_skip | go_guarded | go_step | go_upon | go_back | dsimp only)
 obtain ⟨gr, rc1, rs1, gs, sc1, ss1, rfl, rfl, p1, p2, p3, p4, p5, p6, p7, p8, p9, hRW, hSt, hthS⟩ := two_blocks (w := w) (ownr_of (hO1.bel hB2)) (owns_of hO2) h00
 unfold maxLen at p3 p6
 clear hapr haps hr1 hr2 hO1 hO2

 go_loopw [12] (fun i wr => ∃ k : Nat, k ≤ rn ∧ i = .int .i64 k ∧ Fx [gs] w2 wr ∧ StM wr gs sn (warmM Q TLf k)) (fun i _ => rn - (intOf i).toNat)
 case atStart => exact ⟨0, by omega, rfl, Fx.refl _ _, ⟨hthS, S, hSt, fun i hi => by rw [hTL]; exact RelS.of (os i hi)⟩⟩
 case round =>
  obtain ⟨k, hk, rfl, hF, hM⟩ := hrel
  by_cases hlt : k < rn
  ·have hchk := hch k hlt
   obtain ⟨Q1, hQ1⟩ : ∃ q, q = Q := ⟨_, rfl⟩
   rw [show Q k = Q1 k by rw [hQ1]] at hchk
   have hc := hchk
   unfold chB at hc
   simp only [Bool.and_eq_true, decide_eq_true_eq] at hc
   obtain ⟨hmay, hc1, hc2, hc3⟩ := hc
   have hA0 : 0 ≤ (Q1 k).ra := by unfold mayB at hmay; simp only [Bool.and_eq_true, decide_eq_true_eq] at hmay; exact hmay.1
   have hB0 : 0 ≤ (Q1 k).rb := by unfold mayB at hmay; simp only [Bool.and_eq_true, decide_eq_true_eq] at hmay; exact hmay.2.1
   have hAB : (Q1 k).ra ≠ (Q1 k).rb := by unfold mayB at hmay; simp only [Bool.and_eq_true, decide_eq_true_eq] at hmay; exact hmay.2.2.1
   have hAn : (Q1 k).ra.toNat < sn := by omega
   have hBn : (Q1 k).rb.toNat < sn := by omega
   have e9 : rs1 = some ⟨gr, 0, none⟩ := by rcases p1 with h | h; omega; exact h
   have e10 : ss1 = some ⟨gs, 0, none⟩ := by rcases p4 with h | h; omega; exact h
   subst e9 e10
   have hkI : (k : Int) < (rn : Int) := by omega
   obtain ⟨hth, S, hS, hRel⟩ := hM
   have hRkw : w2.rangeAt gr (k * 14) [.int .i64 (Q1 k).ra, .int .i64 (Q1 k).rb, .float .f64 (Q1 k).r2, .float .f64 (Q1 k).r3, .float .f64 (Q1 k).r4, .float .f64 (Q1 k).r5, .float .f64 (Q1 k).r6, .float .f64 (Q1 k).r7, .float .f64 (Q1 k).r8, .float .f64 (Q1 k).r9, .float .f64 (Q1 k).r10, .float .f64 (Q1 k).r11, .int .i64 (Q1 k).ro, .float .f64 (Q1 k).r13] := by have h := hRW.at_ k hlt; rw [Nat.zero_add] at h; rw [hQ1]; exact h
   have hRk9 := hF.rng (by simp only [List.mem_singleton]; exact p9) hRkw
   have c0 : wr.cell? ⟨gr, k * 14, none⟩ = some (.int .i64 (Q1 k).ra) := hRk9 0 _ rfl
   have c1 : wr.cell? ⟨gr, k * 14 + 1, none⟩ = some (.int .i64 (Q1 k).rb) := hRk9 1 _ rfl
   have hA9 : wr.rangeAt gs ((Q1 k).ra.toNat * 5) [.float .f64 (S (Q1 k).ra.toNat).sm, .float .f64 (S (Q1 k).ra.toNat).si, .float .f64 (S (Q1 k).ra.toNat).sx, .float .f64 (S (Q1 k).ra.toNat).sy, .float .f64 (S (Q1 k).ra.toNat).ss] := by have h := hS _ hAn; rwa [Nat.zero_add] at h
   have hB9 : wr.rangeAt gs ((Q1 k).rb.toNat * 5) [.float .f64 (S (Q1 k).rb.toNat).sm, .float .f64 (S (Q1 k).rb.toNat).si, .float .f64 (S (Q1 k).rb.toNat).sx, .float .f64 (S (Q1 k).rb.toNat).sy, .float .f64 (S (Q1 k).rb.toNat).ss] := by have h := hS _ hBn; rwa [Nat.zero_add] at h
   have hgrw : gr < wr.heap.size := World.block_lt_of_cell? wr _ c0
   have hgsw : gs < wr.heap.size := sts_lt hS hAn
   have oQ : rok (Q1 k) := by rw [hQ1]; exact or_ k hlt
   have hal : alB (Q1 k) (S ((Q1 k).ra.toNat)) (S ((Q1 k).rb.toNat)) = true := by unfold alB; rw [hmay, (hRel _ hAn).st, (hRel _ hBn).st, warm_st, warm_st, hstM _ hAn, hstM _ hBn]; rfl
   have hwarm := fun W => rwarm_m (Q1 k) (S ((Q1 k).ra.toNat)) (S ((Q1 k).rb.toNat)) _ _ W oQ (hRel _ hAn) (hRel _ hBn) hal
   have eM : warmM Q TLf (k + 1) = setF (setF (warmM Q TLf k) (Q1 k).ra.toNat (puM (warmM Q TLf k (Q1 k).ra.toNat) (Q1 k).r2 (Q1 k).r3 (Q1 k).r6 (bitsK (Q1 k).r11))) (Q1 k).rb.toNat (puM (warmM Q TLf k (Q1 k).rb.toNat) (Q1 k).r4 (Q1 k).r5 (Q1 k).r7 (bitsK (Q1 k).r11)) := by rw [hQ1]; rfl
   obtain ⟨M, hMe⟩ : ∃ m, warmM Q TLf k = m := ⟨_, rfl⟩
   rw [hMe] at hRel hwarm eM
   obtain ⟨XO, hXO⟩ : ∃ x, puM (M (Q1 k).ra.toNat) (Q1 k).r2 (Q1 k).r3 (Q1 k).r6 (bitsK (Q1 k).r11) = x := ⟨_, rfl⟩
   obtain ⟨YO, hYO⟩ : ∃ x, puM (M (Q1 k).rb.toNat) (Q1 k).r4 (Q1 k).r5 (Q1 k).r7 (bitsK (Q1 k).r11) = x := ⟨_, rfl⟩
   rw [hXO, hYO] at hwarm eM
   clear hXO hYO hMe hQ1 hal hchk hmay
   repeat (first | go_values | go_skip | go_guarded | go_step | go_upon | go_back | dsimp only)
   refine wp_region_new 30 rfl (fun i v => match i with | 0 => v = .slice (some ⟨gr, 0, none⟩) rn rc1 | 1 => v = .int .i64 (k : Int) | 2 => v = .pointer (some ⟨gr, k * 14, none⟩) | 3 => v = .agg #[.int .i64 (Q1 k).ra, .int .i64 (Q1 k).rb, .float .f64 (Q1 k).r2, .float .f64 (Q1 k).r3, .float .f64 (Q1 k).r4, .float .f64 (Q1 k).r5, .float .f64 (Q1 k).r6, .float .f64 (Q1 k).r7, .float .f64 (Q1 k).r8, .float .f64 (Q1 k).r9, .float .f64 (Q1 k).r10, .float .f64 (Q1 k).r11, .int .i64 (Q1 k).ro, .float .f64 (Q1 k).r13] | 4 => v = .slice (some ⟨gs, 0, none⟩) sn sc1 | 5 => v = .slice (some ⟨gr, 0, none⟩) rn rc1 | 6 => v = .int .i64 (k : Int) | 7 => v = .pointer (some ⟨gr, k * 14, none⟩) | 8 => v = .pointer (some ⟨gr, k * 14, none⟩) | 9 => v = .int .i64 (Q1 k).ra | 10 => v = .pointer (some ⟨gs, (Q1 k).ra.toNat * 5, none⟩) | 11 => v = .agg #[.float .f64 (S (Q1 k).ra.toNat).sm, .float .f64 (S (Q1 k).ra.toNat).si, .float .f64 (S (Q1 k).ra.toNat).sx, .float .f64 (S (Q1 k).ra.toNat).sy, .float .f64 (S (Q1 k).ra.toNat).ss] | 12 => v = .slice (some ⟨gs, 0, none⟩) sn sc1 | 13 => v = .slice (some ⟨gr, 0, none⟩) rn rc1 | 14 => v = .int .i64 (k : Int) | 15 => v = .pointer (some ⟨gr, k * 14, none⟩) | 16 => v = .pointer (some ⟨gr, k * 14 + 1, none⟩) | 17 => v = .int .i64 (Q1 k).rb | 18 => v = .pointer (some ⟨gs, (Q1 k).rb.toNat * 5, none⟩) | 19 => v = .agg #[.float .f64 (S (Q1 k).rb.toNat).sm, .float .f64 (S (Q1 k).rb.toNat).si, .float .f64 (S (Q1 k).rb.toNat).sx, .float .f64 (S (Q1 k).rb.toNat).sy, .float .f64 (S (Q1 k).rb.toNat).ss] | 20 => ∃ A B : SD, RelS A XO ∧ RelS B YO ∧ v = .tuple #[.agg #[.float .f64 A.sm, .float .f64 A.si, .float .f64 A.sx, .float .f64 A.sy, .float .f64 A.ss], .agg #[.float .f64 B.sm, .float .f64 B.si, .float .f64 B.sx, .float .f64 B.sy, .float .f64 B.ss], .int .i64 0] | 21 => ∃ A B : SD, RelS A XO ∧ RelS B YO ∧ v = .tuple #[.agg #[.float .f64 A.sm, .float .f64 A.si, .float .f64 A.sx, .float .f64 A.sy, .float .f64 A.ss], .agg #[.float .f64 B.sm, .float .f64 B.si, .float .f64 B.sx, .float .f64 B.sy, .float .f64 B.ss], .int .i64 0] | 22 => ∃ A : SD, RelS A XO ∧ v = .agg #[.float .f64 A.sm, .float .f64 A.si, .float .f64 A.sx, .float .f64 A.sy, .float .f64 A.ss] | 23 => ∃ B : SD, RelS B YO ∧ v = .agg #[.float .f64 B.sm, .float .f64 B.si, .float .f64 B.sx, .float .f64 B.sy, .float .f64 B.ss] | 24 => v = .int .i64 0 | 29 => v = .int .i64 0 | _ => False) [(25, #[.float .f64 0, .float .f64 0, .float .f64 0, .float .f64 0, .float .f64 0], 45), (26, #[.float .f64 0, .float .f64 0, .float .f64 0, .float .f64 0, .float .f64 0], 45)] [(27, 25, 22), (28, 26, 23)] ?A_w13 (by kernel_rfl) (by kernel_rfl) ?hA_w13 ?ha_w13 ?hst_w13 ?hq_w13 ?ht_w13
   case hA_w13 =>
    intro s
    simp only [putL, dstO, Act.put, List.getElem?_toArray, List.getElem?_cons_zero, List.getElem?_cons_succ, Option.bind_some, List.setIfInBounds_toArray, List.set_cons_zero, List.set_cons_succ, if_true]
    all_goals exact rfl
   case ha_w13 =>
    intro i o c ty hi ho hal B W K hK
    rcases (show i = 0 ∨ i = 1 ∨ i = 2 ∨ i = 3 ∨ i = 4 ∨ i = 5 ∨ i = 6 ∨ i = 7 ∨ i = 8 ∨ i = 9 ∨ i = 10 ∨ i = 11 ∨ i = 12 ∨ i = 13 ∨ i = 14 ∨ i = 15 ∨ i = 16 ∨ i = 17 ∨ i = 18 ∨ i = 19 ∨ i = 20 ∨ i = 21 ∨ i = 22 ∨ i = 23 ∨ i = 24 ∨ i = 25 ∨ i = 26 ∨ i = 27 ∨ i = 28 ∨ i = 29 by omega) with rfl | rfl | rfl | rfl | rfl | rfl | rfl | rfl | rfl | rfl | rfl | rfl | rfl | rfl | rfl | rfl | rfl | rfl | rfl | rfl | rfl | rfl | rfl | rfl | rfl | rfl | rfl | rfl | rfl | rfl
    ·cases (show none = some (c, ty) from hal)
    ·cases (show none = some (c, ty) from hal)
    ·cases (show none = some (c, ty) from hal)
    ·cases (show none = some (c, ty) from hal)
    ·cases (show none = some (c, ty) from hal)
    ·cases (show none = some (c, ty) from hal)
    ·cases (show none = some (c, ty) from hal)
    ·cases (show none = some (c, ty) from hal)
    ·cases (show none = some (c, ty) from hal)
    ·cases (show none = some (c, ty) from hal)
    ·cases (show none = some (c, ty) from hal)
    ·cases (show none = some (c, ty) from hal)
    ·cases (show none = some (c, ty) from hal)
    ·cases (show none = some (c, ty) from hal)
    ·cases (show none = some (c, ty) from hal)
    ·cases (show none = some (c, ty) from hal)
    ·cases (show none = some (c, ty) from hal)
    ·cases (show none = some (c, ty) from hal)
    ·cases (show none = some (c, ty) from hal)
    ·cases (show none = some (c, ty) from hal)
    ·cases (show none = some (c, ty) from hal)
    ·cases (show none = some (c, ty) from hal)
    ·cases (show none = some (c, ty) from hal)
    ·cases (show none = some (c, ty) from hal)
    ·cases (show none = some (c, ty) from hal)
    ·cases ho; cases (show some (#[.float .f64 0, .float .f64 0, .float .f64 0, .float .f64 0, .float .f64 0], 45) = some (c, ty) from hal); go_simp; exact hK.out
    ·cases ho; cases (show some (#[.float .f64 0, .float .f64 0, .float .f64 0, .float .f64 0, .float .f64 0], 45) = some (c, ty) from hal); go_simp; exact hK.out
    ·cases (show none = some (c, ty) from hal)
    ·cases (show none = some (c, ty) from hal)
    ·cases (show none = some (c, ty) from hal)
   case hst_w13 =>
    intro t o a d c ty hlt ho hts hal s hs W b eb hc hf K hK
    rcases (show t = 0 ∨ t = 1 ∨ t = 2 ∨ t = 3 ∨ t = 4 ∨ t = 5 ∨ t = 6 ∨ t = 7 ∨ t = 8 ∨ t = 9 ∨ t = 10 ∨ t = 11 ∨ t = 12 ∨ t = 13 ∨ t = 14 ∨ t = 15 ∨ t = 16 ∨ t = 17 ∨ t = 18 ∨ t = 19 ∨ t = 20 ∨ t = 21 ∨ t = 22 ∨ t = 23 ∨ t = 24 ∨ t = 25 ∨ t = 26 ∨ t = 27 ∨ t = 28 ∨ t = 29 by omega) with rfl | rfl | rfl | rfl | rfl | rfl | rfl | rfl | rfl | rfl | rfl | rfl | rfl | rfl | rfl | rfl | rfl | rfl | rfl | rfl | rfl | rfl | rfl | rfl | rfl | rfl | rfl | rfl | rfl | rfl
    ·cases (show none = some (a, d) from hts)
    ·cases (show none = some (a, d) from hts)
    ·cases (show none = some (a, d) from hts)
    ·cases (show none = some (a, d) from hts)
    ·cases (show none = some (a, d) from hts)
    ·cases (show none = some (a, d) from hts)
    ·cases (show none = some (a, d) from hts)
    ·cases (show none = some (a, d) from hts)
    ·cases (show none = some (a, d) from hts)
    ·cases (show none = some (a, d) from hts)
    ·cases (show none = some (a, d) from hts)
    ·cases (show none = some (a, d) from hts)
    ·cases (show none = some (a, d) from hts)
    ·cases (show none = some (a, d) from hts)
    ·cases (show none = some (a, d) from hts)
    ·cases (show none = some (a, d) from hts)
    ·cases (show none = some (a, d) from hts)
    ·cases (show none = some (a, d) from hts)
    ·cases (show none = some (a, d) from hts)
    ·cases (show none = some (a, d) from hts)
    ·cases (show none = some (a, d) from hts)
    ·cases (show none = some (a, d) from hts)
    ·cases (show none = some (a, d) from hts)
    ·cases (show none = some (a, d) from hts)
    ·cases (show none = some (a, d) from hts)
    ·cases (show none = some (a, d) from hts)
    ·cases (show none = some (a, d) from hts)
    ·cases ho; cases (show some (25, 22) = some (a, d) from hts); cases (show some (#[.float .f64 0, .float .f64 0, .float .f64 0, .float .f64 0, .float .f64 0], 45) = some (c, ty) from hal)
     obtain ⟨A3, q3, e22⟩ := hs 22 (by decide) rfl rfl (by kernel_rfl)
     obtain ⟨u0, hu0⟩ := Option.isSome_iff_exists.1 (hc 0 (by decide))
     obtain ⟨u1, hu1⟩ := Option.isSome_iff_exists.1 (hc 1 (by decide))
     obtain ⟨u2, hu2⟩ := Option.isSome_iff_exists.1 (hc 2 (by decide))
     obtain ⟨u3, hu3⟩ := Option.isSome_iff_exists.1 (hc 3 (by decide))
     obtain ⟨u4, hu4⟩ := Option.isSome_iff_exists.1 (hc 4 (by decide))
     simp only [eb, e22] at hK ⊢
     clear hs
     go_simp
     exact hK.out
    ·cases ho; cases (show some (26, 23) = some (a, d) from hts); cases (show some (#[.float .f64 0, .float .f64 0, .float .f64 0, .float .f64 0, .float .f64 0], 45) = some (c, ty) from hal)
     obtain ⟨B3, q4, e23⟩ := hs 23 (by decide) rfl rfl (by kernel_rfl)
     obtain ⟨u0, hu0⟩ := Option.isSome_iff_exists.1 (hc 0 (by decide))
     obtain ⟨u1, hu1⟩ := Option.isSome_iff_exists.1 (hc 1 (by decide))
     obtain ⟨u2, hu2⟩ := Option.isSome_iff_exists.1 (hc 2 (by decide))
     obtain ⟨u3, hu3⟩ := Option.isSome_iff_exists.1 (hc 3 (by decide))
     obtain ⟨u4, hu4⟩ := Option.isSome_iff_exists.1 (hc 4 (by decide))
     simp only [eb, e23] at hK ⊢
     clear hs
     go_simp
     exact hK.out
    ·cases (show none = some (a, d) from hts)
   case hq_w13 =>
    intro i o hi hal hts ho s hs W hb K hK
    have u0 := keep hb c0; have u1 := keep hb c1
    rcases (show i = 0 ∨ i = 1 ∨ i = 2 ∨ i = 3 ∨ i = 4 ∨ i = 5 ∨ i = 6 ∨ i = 7 ∨ i = 8 ∨ i = 9 ∨ i = 10 ∨ i = 11 ∨ i = 12 ∨ i = 13 ∨ i = 14 ∨ i = 15 ∨ i = 16 ∨ i = 17 ∨ i = 18 ∨ i = 19 ∨ i = 20 ∨ i = 21 ∨ i = 22 ∨ i = 23 ∨ i = 24 ∨ i = 25 ∨ i = 26 ∨ i = 27 ∨ i = 28 ∨ i = 29 by omega) with rfl | rfl | rfl | rfl | rfl | rfl | rfl | rfl | rfl | rfl | rfl | rfl | rfl | rfl | rfl | rfl | rfl | rfl | rfl | rfl | rfl | rfl | rfl | rfl | rfl | rfl | rfl | rfl | rfl | rfl
    rotate_left 2
    cases ho
    have e0 : s 0 = _ := hs 0 (by decide) rfl rfl (by kernel_rfl)
    have e1 : s 1 = _ := hs 1 (by decide) rfl rfl (by kernel_rfl)
    simp only [e0, e1] at hK ⊢
    rotate_left 1
    ·cases ho
     have e2 : s 2 = _ := hs 2 (by decide) rfl rfl (by kernel_rfl)
     simp only [e2] at hK ⊢
     simp only [Act.put, List.setIfInBounds_toArray, List.set_cons_zero, List.set_cons_succ] at hK
     clear hs hal hts
     refine wp_load_mid (P := Try.prog) 43 _ rfl _ _ rfl [.int .i64 (Q1 k).ra, .int .i64 (Q1 k).rb, .float .f64 (Q1 k).r2, .float .f64 (Q1 k).r3, .float .f64 (Q1 k).r4, .float .f64 (Q1 k).r5, .float .f64 (Q1 k).r6, .float .f64 (Q1 k).r7, .float .f64 (Q1 k).r8, .float .f64 (Q1 k).r9, .float .f64 (Q1 k).r10, .float .f64 (Q1 k).r11, .int .i64 (Q1 k).ro, .float .f64 (Q1 k).r13] _ (rng_bel hRk9 hb) Try.underlying43 rfl (by kernel_rfl) ?_; exact hK.out _ _ rfl (bl_refl _)
    rotate_left 3
    cases ho
    have e5 : s 5 = _ := hs 5 (by decide) rfl rfl (by kernel_rfl)
    have e6 : s 6 = _ := hs 6 (by decide) rfl rfl (by kernel_rfl)
    simp only [e5, e6] at hK ⊢
    rotate_left 1
    cases ho
    have e7 : s 7 = _ := hs 7 (by decide) rfl rfl (by kernel_rfl)
    simp only [e7] at hK ⊢
    rotate_left 1
    cases ho
    have e8 : s 8 = _ := hs 8 (by decide) rfl rfl (by kernel_rfl)
    simp only [e8] at hK ⊢
    rotate_left 1
    cases ho
    have e4 : s 4 = _ := hs 4 (by decide) rfl rfl (by kernel_rfl)
    have e9 : s 9 = _ := hs 9 (by decide) rfl rfl (by kernel_rfl)
    simp only [e4, e9] at hK ⊢
    rotate_left 1
    ·cases ho
     have e10 : s 10 = _ := hs 10 (by decide) rfl rfl (by kernel_rfl)
     simp only [e10] at hK ⊢
     simp only [Act.put, List.setIfInBounds_toArray, List.set_cons_zero, List.set_cons_succ] at hK
     clear hs hal hts
     refine wp_load_mid (P := Try.prog) 45 _ rfl _ _ rfl [.float .f64 (S (Q1 k).ra.toNat).sm, .float .f64 (S (Q1 k).ra.toNat).si, .float .f64 (S (Q1 k).ra.toNat).sx, .float .f64 (S (Q1 k).ra.toNat).sy, .float .f64 (S (Q1 k).ra.toNat).ss] _ (rng_bel hA9 hb) Try.underlying45 rfl (by kernel_rfl) ?_; exact hK.out _ _ rfl (bl_refl _)
    rotate_left 3
    cases ho
    have e13 : s 13 = _ := hs 13 (by decide) rfl rfl (by kernel_rfl)
    have e14 : s 14 = _ := hs 14 (by decide) rfl rfl (by kernel_rfl)
    simp only [e13, e14] at hK ⊢
    rotate_left 1
    cases ho
    have e15 : s 15 = _ := hs 15 (by decide) rfl rfl (by kernel_rfl)
    simp only [e15] at hK ⊢
    rotate_left 1
    cases ho
    have e16 : s 16 = _ := hs 16 (by decide) rfl rfl (by kernel_rfl)
    simp only [e16] at hK ⊢
    rotate_left 1
    cases ho
    have e12 : s 12 = _ := hs 12 (by decide) rfl rfl (by kernel_rfl)
    have e17 : s 17 = _ := hs 17 (by decide) rfl rfl (by kernel_rfl)
    simp only [e12, e17] at hK ⊢
    rotate_left 1
    ·cases ho
     have e18 : s 18 = _ := hs 18 (by decide) rfl rfl (by kernel_rfl)
     simp only [e18] at hK ⊢
     simp only [Act.put, List.setIfInBounds_toArray, List.set_cons_zero, List.set_cons_succ] at hK
     clear hs hal hts
     refine wp_load_mid (P := Try.prog) 45 _ rfl _ _ rfl [.float .f64 (S (Q1 k).rb.toNat).sm, .float .f64 (S (Q1 k).rb.toNat).si, .float .f64 (S (Q1 k).rb.toNat).sx, .float .f64 (S (Q1 k).rb.toNat).sy, .float .f64 (S (Q1 k).rb.toNat).ss] _ (rng_bel hB9 hb) Try.underlying45 rfl (by kernel_rfl) ?_; exact hK.out _ _ rfl (bl_refl _)
    cases ho
    have e3 : s 3 = _ := hs 3 (by decide) rfl rfl (by kernel_rfl)
    have e11 : s 11 = _ := hs 11 (by decide) rfl rfl (by kernel_rfl)
    have e19 : s 19 = _ := hs 19 (by decide) rfl rfl (by kernel_rfl)
    simp only [e3, e11, e19] at hK ⊢
    rotate_left 1
    cases ho
    obtain ⟨A20, B20, q20, q20b, e20⟩ := hs 20 (by decide) rfl rfl (by kernel_rfl)
    simp only [e20] at hK ⊢
    rotate_left 1
    cases ho
    obtain ⟨A21, B21, q21, q21b, e21⟩ := hs 21 (by decide) rfl rfl (by kernel_rfl)
    simp only [e21] at hK ⊢
    rotate_left 1
    cases ho
    obtain ⟨A21, B21, q21, q21b, e21⟩ := hs 21 (by decide) rfl rfl (by kernel_rfl)
    simp only [e21] at hK ⊢
    rotate_left 1
    cases ho
    obtain ⟨A21, B21, q21, q21b, e21⟩ := hs 21 (by decide) rfl rfl (by kernel_rfl)
    simp only [e21] at hK ⊢
    rotate_left 1
    ·cases (show some _ = none from hal)
    ·cases (show some _ = none from hal)
    ·cases (show some _ = none from hts)
    ·cases (show some _ = none from hts)
    cases ho
    have e24 : s 24 = _ := hs 24 (by decide) rfl rfl (by kernel_rfl)
    simp only [e24] at hK ⊢
    rotate_left 1
    all_goals
     try cases ho
     simp only [Act.put, List.setIfInBounds_toArray, List.set_cons_zero, List.set_cons_succ] at hK
     clear hs hal hts
     go_simp
     all_goals (try go_wp2_with (first | (go_at_call 76; (with_reducible refine (hwarm _).mono ?_); rintro e w' ⟨A9, B9, q9, q9b, rfl, hb1⟩)))
     all_goals first | with_reducible exact hK.out _ _ ⟨A9, B9, q9, q9b, rfl⟩ hb1 | with_reducible exact hK.out _ _ ⟨A20, B20, q20, q20b, rfl⟩ (bl_refl _) | with_reducible exact hK.out _ _ ⟨A21, q21, rfl⟩ (bl_refl _) | with_reducible exact hK.out _ _ ⟨B21, q21b, rfl⟩ (bl_refl _) | with_reducible exact hK.out _ _ rfl (bl_refl _) | exact hK.out _ _ rfl (bl_refl _) | exact hK.out _ _ rfl (by assumption) | exact hK.out _ _ (by assumption) (by assumption)
   case ht_w13 =>
    intro s hs W hb hJ
    have e0 : s 0 = _ := hs 0 (by decide) rfl rfl
    have e1 : s 1 = _ := hs 1 (by decide) rfl rfl
    have e2 : s 2 = _ := hs 2 (by decide) rfl rfl
    have e3 : s 3 = _ := hs 3 (by decide) rfl rfl
    have e4 : s 4 = _ := hs 4 (by decide) rfl rfl
    have e5 : s 5 = _ := hs 5 (by decide) rfl rfl
    have e6 : s 6 = _ := hs 6 (by decide) rfl rfl
    have e7 : s 7 = _ := hs 7 (by decide) rfl rfl
    have e8 : s 8 = _ := hs 8 (by decide) rfl rfl
    have e9 : s 9 = _ := hs 9 (by decide) rfl rfl
    have e10 : s 10 = _ := hs 10 (by decide) rfl rfl
    have e11 : s 11 = _ := hs 11 (by decide) rfl rfl
    have e12 : s 12 = _ := hs 12 (by decide) rfl rfl
    have e13 : s 13 = _ := hs 13 (by decide) rfl rfl
    have e14 : s 14 = _ := hs 14 (by decide) rfl rfl
    have e15 : s 15 = _ := hs 15 (by decide) rfl rfl
    have e16 : s 16 = _ := hs 16 (by decide) rfl rfl
    have e17 : s 17 = _ := hs 17 (by decide) rfl rfl
    have e18 : s 18 = _ := hs 18 (by decide) rfl rfl
    have e19 : s 19 = _ := hs 19 (by decide) rfl rfl
    obtain ⟨A20, B20, q20, q20b, e20⟩ := hs 20 (by decide) rfl rfl
    obtain ⟨A21, B21, q21, q21b, e21⟩ := hs 21 (by decide) rfl rfl
    obtain ⟨A3, q3, e22⟩ := hs 22 (by decide) rfl rfl
    obtain ⟨B3, q4, e23⟩ := hs 23 (by decide) rfl rfl
    have e24 : s 24 = _ := hs 24 (by decide) rfl rfl
    have e29 : s 29 = _ := hs 29 (by decide) rfl rfl
    obtain ⟨p25, e25, n25, l25, cl25⟩ := hJ.1 25 _ _ (by decide) rfl rfl
    have k_p25_0 : W.cell? ⟨p25, 0, none⟩ = some (cellAt (s 22) 0) := cl25 0 (by decide)
    have k_p25_1 : W.cell? ⟨p25, 1, none⟩ = some (cellAt (s 22) 1) := cl25 1 (by decide)
    have k_p25_2 : W.cell? ⟨p25, 2, none⟩ = some (cellAt (s 22) 2) := cl25 2 (by decide)
    have k_p25_3 : W.cell? ⟨p25, 3, none⟩ = some (cellAt (s 22) 3) := cl25 3 (by decide)
    have k_p25_4 : W.cell? ⟨p25, 4, none⟩ = some (cellAt (s 22) 4) := cl25 4 (by decide)
    rw [e22] at k_p25_0 k_p25_1 k_p25_2 k_p25_3 k_p25_4
    simp only [cellAt] at k_p25_0 k_p25_1 k_p25_2 k_p25_3 k_p25_4
    obtain ⟨p26, e26, n26, l26, cl26⟩ := hJ.1 26 _ _ (by decide) rfl rfl
    have k_p26_0 : W.cell? ⟨p26, 0, none⟩ = some (cellAt (s 23) 0) := cl26 0 (by decide)
    have k_p26_1 : W.cell? ⟨p26, 1, none⟩ = some (cellAt (s 23) 1) := cl26 1 (by decide)
    have k_p26_2 : W.cell? ⟨p26, 2, none⟩ = some (cellAt (s 23) 2) := cl26 2 (by decide)
    have k_p26_3 : W.cell? ⟨p26, 3, none⟩ = some (cellAt (s 23) 3) := cl26 3 (by decide)
    have k_p26_4 : W.cell? ⟨p26, 4, none⟩ = some (cellAt (s 23) 4) := cl26 4 (by decide)
    rw [e23] at k_p26_0 k_p26_1 k_p26_2 k_p26_3 k_p26_4
    simp only [cellAt] at k_p26_0 k_p26_1 k_p26_2 k_p26_3 k_p26_4
    have ne2526 : p25 ≠ p26 := fun h => hJ.2 25 26 (by decide) (by decide) (by decide) rfl rfl rfl rfl (by rw [e25, e26, h])
    simp only [e0, e1, e2, e3, e4, e5, e6, e7, e8, e9, e10, e11, e12, e13, e14, e15, e16, e17, e18, e19, e20, e21, e22, e23, e24, e29, e25, e26]
    clear hs hJ e0 e1 e2 e3 e4 e5 e6 e7 e8 e9 e10 e11 e12 e13 e14 e15 e16 e17 e18 e19 e20 e21 e22 e23 e24 e29 e25 e26 cl25 cl26
    have hP25 : W.rangeAt p25 0 [.float .f64 A3.sm, .float .f64 A3.si, .float .f64 A3.sx, .float .f64 A3.sy, .float .f64 A3.ss] := fun j v hj => by
     rw [Nat.zero_add]
     rcases (show j = 0 ∨ j = 1 ∨ j = 2 ∨ j = 3 ∨ j = 4 from by have := (List.getElem?_eq_some_iff.1 hj).1; simp at this; omega) with rfl | rfl | rfl | rfl | rfl <;> (cases hj; assumption)
    have hP26 : W.rangeAt p26 0 [.float .f64 B3.sm, .float .f64 B3.si, .float .f64 B3.sx, .float .f64 B3.sy, .float .f64 B3.ss] := fun j v hj => by
     rw [Nat.zero_add]
     rcases (show j = 0 ∨ j = 1 ∨ j = 2 ∨ j = 3 ∨ j = 4 from by have := (List.getElem?_eq_some_iff.1 hj).1; simp at this; omega) with rfl | rfl | rfl | rfl | rfl <;> (cases hj; assumption)
    clear k_p25_0 k_p25_1 k_p25_2 k_p25_3 k_p25_4 k_p26_0 k_p26_1 k_p26_2 k_p26_3 k_p26_4
    have hbn := hb
    have hS9 : Sts W gs 0 sn S := hS.bel hb
    have d0 := keep hb c0
    have d1 := keep hb c1
    have hthS9 := bel_there hth hb
    have hgs9 : gs < W.heap.size := sts_lt hS9 hAn
    have cR9 := d0
    clear c0 c1 hb
    repeat (first | go_values | go_skip | go_guarded | go_step | go_upon | go_back | dsimp only)
    refine wp_region_knot 9 rfl (fun i v => match i with | 0 => v = .slice (some ⟨gs, 0, none⟩) sn sc1 | 1 => v = .slice (some ⟨gr, 0, none⟩) rn rc1 | 2 => v = .int .i64 (k : Int) | 3 => v = .pointer (some ⟨gr, k * 14, none⟩) | 4 => v = .pointer (some ⟨gr, k * 14, none⟩) | 5 => v = .int .i64 (Q1 k).ra | 6 => v = .agg #[.float .f64 A3.sm, .float .f64 A3.si, .float .f64 A3.sx, .float .f64 A3.sy, .float .f64 A3.ss] | 7 => v = .pointer (some ⟨gs, (Q1 k).ra.toNat * 5, none⟩) | _ => False) (fun i => match i with | 5 => true | 6 => true | _ => false) (fun i => match i with | 8 => some (gs, (Q1 k).ra.toNat * 5, 6) | _ => none) (fun i => match i with | 8 => 5 | _ => 0) [gs] 4 ?A_w14 (by kernel_rfl) (by kernel_rfl) ?hA_w14 ?hpre_w14 ?hdep_w14 ?hne_w14 ?hq_w14 ?hp_w14 ?hst_w14 ?ht_w14
    case hA_w14 =>
     intro s
     simp only [putL, dstO, Act.put, List.getElem?_toArray, List.getElem?_cons_zero, List.getElem?_cons_succ, Option.bind_some, List.setIfInBounds_toArray, List.set_cons_zero, List.set_cons_succ, if_true]
     all_goals exact rfl
    case hpre_w14 =>
     intro i j b o d hi hr hso
     have hj : j = 8 := by
      split at hso
      all_goals first | omega | (cases hso; done)
     rcases (show i = 0 ∨ i = 1 ∨ i = 2 ∨ i = 3 ∨ i = 4 ∨ i = 5 ∨ i = 6 ∨ i = 7 ∨ i = 8 by omega) with rfl | rfl | rfl | rfl | rfl | rfl | rfl | rfl | rfl
     all_goals first
      | (cases hr; done)
      | (rcases hj with rfl <;> (show rch _ _ _ _ = true) <;> kernel_rfl)
    case hdep_w14 =>
     intro i b o d hso
     split at hso
     all_goals first | (cases hso; done) | (cases hso; exact ⟨by decide, rfl, by simp, by decide, rfl, by kernel_rfl⟩)
    case hne_w14 =>
     intro i j b o d o' d' hij h1 h2
     split at h1
     all_goals (try (cases h1; done))
     all_goals split at h2
     all_goals (try (cases h2; done))
     all_goals (cases h1; cases h2; first | (exact absurd rfl hij) | (exact absurd rfl hne9) | (exact absurd rfl hne9.symm) | (simp only []; omega) | omega)
    case hq_w14 =>
     intro i o hi ho hso hrd s hs W hb K hK
     have uc := keep hb cR9
     rcases (show i = 0 ∨ i = 1 ∨ i = 2 ∨ i = 3 ∨ i = 4 ∨ i = 5 ∨ i = 6 ∨ i = 7 ∨ i = 8 by omega) with rfl | rfl | rfl | rfl | rfl | rfl | rfl | rfl | rfl
     ·cases hrd
     ·cases hrd
     ·cases hrd
     ·cases hrd
     ·cases hrd
     ·cases ho
      have e4 : s 4 = _ := hs 4 (by decide) rfl (by kernel_rfl)
      simp only [e4] at hK ⊢
      simp only [Act.put, List.setIfInBounds_toArray, List.set_cons_zero, List.set_cons_succ] at hK
      clear hs
      go_simp
      all_goals first | with_reducible exact hK.out _ _ rfl (bl_refl _) | exact hK.out _ _ rfl (bl_refl _)
     ·cases ho
      simp only [Act.put, List.setIfInBounds_toArray, List.set_cons_zero, List.set_cons_succ] at hK
      clear hs
      refine wp_load_mid (P := Try.prog) 45 _ rfl _ _ rfl [.float .f64 A3.sm, .float .f64 A3.si, .float .f64 A3.sx, .float .f64 A3.sy, .float .f64 A3.ss] _ (rng_bel hP25 hb) Try.underlying45 rfl (by kernel_rfl) ?_; exact hK.out _ _ rfl (bl_refl _)
     ·cases hrd
     ·cases hso
    case hp_w14 =>
     intro i o hi ho hso hrd s hs W K hK
     rcases (show i = 0 ∨ i = 1 ∨ i = 2 ∨ i = 3 ∨ i = 4 ∨ i = 5 ∨ i = 6 ∨ i = 7 ∨ i = 8 by omega) with rfl | rfl | rfl | rfl | rfl | rfl | rfl | rfl | rfl
     rotate_left 3
     cases ho
     have e1 : s 1 = _ := hs 1 (by decide) rfl (by kernel_rfl)
     have e2 : s 2 = _ := hs 2 (by decide) rfl (by kernel_rfl)
     simp only [e1, e2] at hK ⊢
     rotate_left 1
     cases ho
     have e3 : s 3 = _ := hs 3 (by decide) rfl (by kernel_rfl)
     simp only [e3] at hK ⊢
     rotate_left 1
     ·cases hrd
     ·cases hrd
     cases ho
     have e0 : s 0 = _ := hs 0 (by decide) rfl (by kernel_rfl)
     have e5 : s 5 = _ := hs 5 (by decide) rfl (by kernel_rfl)
     simp only [e0, e5] at hK ⊢
     rotate_left 1
     ·cases hso
     all_goals
      try cases ho
      simp only [Act.put, List.setIfInBounds_toArray, List.set_cons_zero, List.set_cons_succ] at hK
      clear hs
      go_simp
      all_goals first | with_reducible exact hK.out _ rfl | exact hK.out _ rfl
    case hst_w14 =>
     intro i o b q d hi ho hso s hs W hb K hK
     rcases (show i = 0 ∨ i = 1 ∨ i = 2 ∨ i = 3 ∨ i = 4 ∨ i = 5 ∨ i = 6 ∨ i = 7 ∨ i = 8 by omega) with rfl | rfl | rfl | rfl | rfl | rfl | rfl | rfl | rfl
     ·cases hso
     ·cases hso
     ·cases hso
     ·cases hso
     ·cases hso
     ·cases hso
     ·cases hso
     ·cases hso
     ·cases ho
      cases hso
      have e6 : s 6 = _ := hs 6 (by decide) rfl (by kernel_rfl)
      have e7 : s 7 = _ := hs 7 (by decide) rfl (by kernel_rfl)
      simp only [e6, e7] at hK ⊢
      have hth := there_sub (hb.thr _ _ _ hthS9) (show (Q1 k).ra.toNat * 5 + 5 ≤ sn * 5 by omega)
      refine wp_store_mid (P := Try.prog) 45 _ _ rfl (gs) ((Q1 k).ra.toNat * 5) #[.float .f64 A3.sm, .float .f64 A3.si, .float .f64 A3.sx, .float .f64 A3.sy, .float .f64 A3.ss] rfl rfl hth (by kernel_rfl) (by kernel_rfl) ?_
      exact hK.out [.float .f64 A3.sm, .float .f64 A3.si, .float .f64 A3.sx, .float .f64 A3.sy, .float .f64 A3.ss] (.inl rfl) rfl hth
    case ht_w14 =>
     intro s hs W hfx hout hin
     have e0 : s 0 = _ := hs 0 (by decide) rfl
     have e1 : s 1 = _ := hs 1 (by decide) rfl
     have e2 : s 2 = _ := hs 2 (by decide) rfl
     have e3 : s 3 = _ := hs 3 (by decide) rfl
     have e4 : s 4 = _ := hs 4 (by decide) rfl
     have e5 : s 5 = _ := hs 5 (by decide) rfl
     have e6 : s 6 = _ := hs 6 (by decide) rfl
     have e7 : s 7 = _ := hs 7 (by decide) rfl
     simp only [e0, e1, e2, e3, e4, e5, e6, e7]
     obtain ⟨cs1, g1, g2, g3⟩ := hin 8 _ _ _ rfl
     rw [e6] at g1
     have i1 := cellsV_agg (l := [.float .f64 A3.sm, .float .f64 A3.si, .float .f64 A3.sx, .float .f64 A3.sy, .float .f64 A3.ss]) g1 (by rw [g2]; decide)
     subst i1
     have hout9 : ∀ q, ¬ ((Q1 k).ra.toNat * 5 ≤ q ∧ q < (Q1 k).ra.toNat * 5 + 5) → W.cell? ⟨gs, q, none⟩ = _ := fun q n1 => hout gs q hgs9 (by rintro ⟨j, o, d, h1, h2, h3, h4⟩; dsimp only at h1 h4; split at h1 <;> cases h1; exact n1 ⟨h3, h4⟩)
     clear hs hin g1 g2 hout e0 e1 e2 e3 e4 e5 e6 e7
     have hS14 := sts_one (a' := A3) hS9 g3 hout9
     have hthS14 := hfx.thr _ _ _ hthS9
     have hP15 := hfx.rng (by simp only [List.mem_singleton]; omega) hP26
     have hfx14 := hfx
     have cR15 := hfx.cell (by simp only [List.mem_singleton]; omega) d1
     have hgs15 : gs < W.heap.size := sts_lt hS14 hAn
     clear hout9 g3 hfx hthS9 hgs9 cR9
     have hthS9 := hthS14
     have hgs9 := hgs15
     have cR9 := cR15
     repeat (first | go_values | go_skip | go_guarded | go_step | go_upon | go_back | dsimp only)
     refine wp_region_knot 9 rfl (fun i v => match i with | 0 => v = .slice (some ⟨gs, 0, none⟩) sn sc1 | 1 => v = .slice (some ⟨gr, 0, none⟩) rn rc1 | 2 => v = .int .i64 (k : Int) | 3 => v = .pointer (some ⟨gr, k * 14, none⟩) | 4 => v = .pointer (some ⟨gr, k * 14 + 1, none⟩) | 5 => v = .int .i64 (Q1 k).rb | 6 => v = .agg #[.float .f64 B3.sm, .float .f64 B3.si, .float .f64 B3.sx, .float .f64 B3.sy, .float .f64 B3.ss] | 7 => v = .pointer (some ⟨gs, (Q1 k).rb.toNat * 5, none⟩) | _ => False) (fun i => match i with | 5 => true | 6 => true | _ => false) (fun i => match i with | 8 => some (gs, (Q1 k).rb.toNat * 5, 6) | _ => none) (fun i => match i with | 8 => 5 | _ => 0) [gs] 4 ?A_w15 (by kernel_rfl) (by kernel_rfl) ?hA_w15 ?hpre_w15 ?hdep_w15 ?hne_w15 ?hq_w15 ?hp_w15 ?hst_w15 ?ht_w15
     case hA_w15 =>
      intro s
      simp only [putL, dstO, Act.put, List.getElem?_toArray, List.getElem?_cons_zero, List.getElem?_cons_succ, Option.bind_some, List.setIfInBounds_toArray, List.set_cons_zero, List.set_cons_succ, if_true]
      all_goals exact rfl
     case hpre_w15 =>
      intro i j b o d hi hr hso
      have hj : j = 8 := by
       split at hso
       all_goals first | omega | (cases hso; done)
      rcases (show i = 0 ∨ i = 1 ∨ i = 2 ∨ i = 3 ∨ i = 4 ∨ i = 5 ∨ i = 6 ∨ i = 7 ∨ i = 8 by omega) with rfl | rfl | rfl | rfl | rfl | rfl | rfl | rfl | rfl
      all_goals first
       | (cases hr; done)
       | (rcases hj with rfl <;> (show rch _ _ _ _ = true) <;> kernel_rfl)
     case hdep_w15 =>
      intro i b o d hso
      split at hso
      all_goals first | (cases hso; done) | (cases hso; exact ⟨by decide, rfl, by simp, by decide, rfl, by kernel_rfl⟩)
     case hne_w15 =>
      intro i j b o d o' d' hij h1 h2
      split at h1
      all_goals (try (cases h1; done))
      all_goals split at h2
      all_goals (try (cases h2; done))
      all_goals (cases h1; cases h2; first | (exact absurd rfl hij) | (exact absurd rfl hne9) | (exact absurd rfl hne9.symm) | (simp only []; omega) | omega)
     case hq_w15 =>
      intro i o hi ho hso hrd s hs W hb K hK
      have uc := keep hb cR9
      rcases (show i = 0 ∨ i = 1 ∨ i = 2 ∨ i = 3 ∨ i = 4 ∨ i = 5 ∨ i = 6 ∨ i = 7 ∨ i = 8 by omega) with rfl | rfl | rfl | rfl | rfl | rfl | rfl | rfl | rfl
      ·cases hrd
      ·cases hrd
      ·cases hrd
      ·cases hrd
      ·cases hrd
      ·cases ho
       have e4 : s 4 = _ := hs 4 (by decide) rfl (by kernel_rfl)
       simp only [e4] at hK ⊢
       simp only [Act.put, List.setIfInBounds_toArray, List.set_cons_zero, List.set_cons_succ] at hK
       clear hs
       go_simp
       all_goals first | with_reducible exact hK.out _ _ rfl (bl_refl _) | exact hK.out _ _ rfl (bl_refl _)
      ·cases ho
       simp only [Act.put, List.setIfInBounds_toArray, List.set_cons_zero, List.set_cons_succ] at hK
       clear hs
       refine wp_load_mid (P := Try.prog) 45 _ rfl _ _ rfl [.float .f64 B3.sm, .float .f64 B3.si, .float .f64 B3.sx, .float .f64 B3.sy, .float .f64 B3.ss] _ (rng_bel hP15 hb) Try.underlying45 rfl (by kernel_rfl) ?_; exact hK.out _ _ rfl (bl_refl _)
      ·cases hrd
      ·cases hso
     case hp_w15 =>
      intro i o hi ho hso hrd s hs W K hK
      rcases (show i = 0 ∨ i = 1 ∨ i = 2 ∨ i = 3 ∨ i = 4 ∨ i = 5 ∨ i = 6 ∨ i = 7 ∨ i = 8 by omega) with rfl | rfl | rfl | rfl | rfl | rfl | rfl | rfl | rfl
      rotate_left 3
      cases ho
      have e1 : s 1 = _ := hs 1 (by decide) rfl (by kernel_rfl)
      have e2 : s 2 = _ := hs 2 (by decide) rfl (by kernel_rfl)
      simp only [e1, e2] at hK ⊢
      rotate_left 1
      cases ho
      have e3 : s 3 = _ := hs 3 (by decide) rfl (by kernel_rfl)
      simp only [e3] at hK ⊢
      rotate_left 1
      ·cases hrd
      ·cases hrd
      cases ho
      have e0 : s 0 = _ := hs 0 (by decide) rfl (by kernel_rfl)
      have e5 : s 5 = _ := hs 5 (by decide) rfl (by kernel_rfl)
      simp only [e0, e5] at hK ⊢
      rotate_left 1
      ·cases hso
      all_goals
       try cases ho
       simp only [Act.put, List.setIfInBounds_toArray, List.set_cons_zero, List.set_cons_succ] at hK
       clear hs
       go_simp
       all_goals first | with_reducible exact hK.out _ rfl | exact hK.out _ rfl
     case hst_w15 =>
      intro i o b q d hi ho hso s hs W hb K hK
      rcases (show i = 0 ∨ i = 1 ∨ i = 2 ∨ i = 3 ∨ i = 4 ∨ i = 5 ∨ i = 6 ∨ i = 7 ∨ i = 8 by omega) with rfl | rfl | rfl | rfl | rfl | rfl | rfl | rfl | rfl
      ·cases hso
      ·cases hso
      ·cases hso
      ·cases hso
      ·cases hso
      ·cases hso
      ·cases hso
      ·cases hso
      ·cases ho
       cases hso
       have e6 : s 6 = _ := hs 6 (by decide) rfl (by kernel_rfl)
       have e7 : s 7 = _ := hs 7 (by decide) rfl (by kernel_rfl)
       simp only [e6, e7] at hK ⊢
       have hth := there_sub (hb.thr _ _ _ hthS9) (show (Q1 k).rb.toNat * 5 + 5 ≤ sn * 5 by omega)
       refine wp_store_mid (P := Try.prog) 45 _ _ rfl (gs) ((Q1 k).rb.toNat * 5) #[.float .f64 B3.sm, .float .f64 B3.si, .float .f64 B3.sx, .float .f64 B3.sy, .float .f64 B3.ss] rfl rfl hth (by kernel_rfl) (by kernel_rfl) ?_
       exact hK.out [.float .f64 B3.sm, .float .f64 B3.si, .float .f64 B3.sx, .float .f64 B3.sy, .float .f64 B3.ss] (.inl rfl) rfl hth
     case ht_w15 =>
      intro s hs W hfx hout hin
      have e0 : s 0 = _ := hs 0 (by decide) rfl
      have e1 : s 1 = _ := hs 1 (by decide) rfl
      have e2 : s 2 = _ := hs 2 (by decide) rfl
      have e3 : s 3 = _ := hs 3 (by decide) rfl
      have e4 : s 4 = _ := hs 4 (by decide) rfl
      have e5 : s 5 = _ := hs 5 (by decide) rfl
      have e6 : s 6 = _ := hs 6 (by decide) rfl
      have e7 : s 7 = _ := hs 7 (by decide) rfl
      simp only [e0, e1, e2, e3, e4, e5, e6, e7]
      obtain ⟨cs1, g1, g2, g3⟩ := hin 8 _ _ _ rfl
      rw [e6] at g1
      have i1 := cellsV_agg (l := [.float .f64 B3.sm, .float .f64 B3.si, .float .f64 B3.sx, .float .f64 B3.sy, .float .f64 B3.ss]) g1 (by rw [g2]; decide)
      subst i1
      have hout9 : ∀ q, ¬ ((Q1 k).rb.toNat * 5 ≤ q ∧ q < (Q1 k).rb.toNat * 5 + 5) → W.cell? ⟨gs, q, none⟩ = _ := fun q n1 => hout gs q hgs9 (by rintro ⟨j, o, d, h1, h2, h3, h4⟩; dsimp only at h1 h4; split at h1 <;> cases h1; exact n1 ⟨h3, h4⟩)
      clear hs hin g1 g2 hout e0 e1 e2 e3 e4 e5 e6 e7
      have hS15 := sts_one (a' := B3) hS14 g3 hout9
      repeat (first | go_values | go_skip | go_guarded | go_step | go_upon | go_back | dsimp only)
      refine ⟨⟨k + 1, by omega, by go_num, ((hF.trans (Fx.of_bel hbn)).trans hfx14).trans hfx, hfx.thr _ _ _ hthS9, _, hS15, ?_⟩, by simp [intOf]; omega⟩
      rw [eM]; exact rel_two hRel q3 q4
  ·have hkn : rn = k := by omega
   subst hkn
   obtain ⟨w3, rfl⟩ : ∃ w3, w3 = wr := ⟨_, rfl⟩
   have hRW3 : RwM w3 gr rn Q := hRW.away hF (by simp only [List.mem_singleton]; exact p9)
   have hF3 := hF.mono2 gr
   clear hF
   repeat (first | go_values | go_skip | go_guarded | go_step | go_upon | go_back | dsimp only)
   go_loopw [16] (fun i wr => ∃ j : Nat, j ≤ n ∧ i = .int .i64 j ∧ Fx [gr, gs] w2 wr ∧ RwM wr gr rn (itM Q TLf rn j).1 ∧ StM wr gs sn (itM Q TLf rn j).2) (fun i _ => n - (intOf i).toNat)
   case atStart => exact ⟨0, by omega, rfl, hF3, hRW3, hM⟩
   case round =>
    obtain ⟨j, hj, rfl, hFj, hRj, hSj⟩ := hrel
    by_cases hlj : j < n
    ·have hjI : (j : Int) < (n : Int) := by omega
     obtain ⟨i1, i2, i3⟩ := it_inv (M := TLf) hch or_ j
     have i4 : ∀ i, i < sn → stB ((itM Q TLf rn j).2 i) = true := fun i hi => by rw [i3]; exact hstM i hi
     obtain ⟨Qj, hQj⟩ : ∃ q, (itM Q TLf rn j).1 = q := ⟨_, rfl⟩
     obtain ⟨Mj, hMj⟩ : ∃ q, (itM Q TLf rn j).2 = q := ⟨_, rfl⟩
     have eN : itM Q TLf rn (j + 1) = rndM Qj Mj rn := by rw [← hQj, ← hMj]; rfl
     rw [hQj] at i1 i2 hRj
     rw [hMj] at i4 hSj
     clear i3 hQj hMj
     obtain ⟨w4, rfl⟩ : ∃ w4, w4 = wr := ⟨_, rfl⟩
     repeat (first | go_values | go_skip | go_guarded | go_step | go_upon | go_back | dsimp only)
     go_loopw [17] (fun i wr => ∃ k : Nat, k ≤ rn ∧ i = .int .i64 k ∧ Fx [gr, gs] w2 wr ∧ RwM wr gr rn (rndM Qj Mj k).1 ∧ StM wr gs sn (rndM Qj Mj k).2) (fun i _ => rn - (intOf i).toNat)
     case atStart => exact ⟨0, by omega, rfl, hFj, hRj, hSj⟩
     case round =>
      clear hRj hSj hFj
      obtain ⟨k, hk, rfl, hF, hRM, hSM⟩ := hrel
      by_cases hlt : k < rn
      ·have hck := (rnd_ch (M := Mj) i1 k hk).1
       have hs0 := (rnd_ch (M := Mj) i1 k hk).2
       have hok := rnd_ok (M := Mj) i2 k hk
       obtain ⟨Q1, M1, eP⟩ : ∃ Q1 M1, rndM Qj Mj k = (Q1, M1) := ⟨_, _, rfl⟩
       have en := rnd_succ eP
       rw [eP] at hck hs0 hok hRM hSM
       dsimp only at hck hs0 hok hRM hSM
       clear eP
       obtain ⟨T, eT⟩ : ∃ T, toR Q1 k = T := ⟨_, rfl⟩
       rw [eT] at en
       have hchk := hck k hlt
       have hc := hchk
       unfold chB at hc
       simp only [Bool.and_eq_true, decide_eq_true_eq] at hc
       obtain ⟨hmay, hc1, hc2, hc3⟩ := hc
       have hA0 : 0 ≤ (Q1 k).ra := by unfold mayB at hmay; simp only [Bool.and_eq_true, decide_eq_true_eq] at hmay; exact hmay.1
       have hB0 : 0 ≤ (Q1 k).rb := by unfold mayB at hmay; simp only [Bool.and_eq_true, decide_eq_true_eq] at hmay; exact hmay.2.1
       have hAB : (Q1 k).ra ≠ (Q1 k).rb := by unfold mayB at hmay; simp only [Bool.and_eq_true, decide_eq_true_eq] at hmay; exact hmay.2.2.1
       have hAn : (Q1 k).ra.toNat < sn := by omega
       have hBn : (Q1 k).rb.toNat < sn := by omega
       have e9 : rs1 = some ⟨gr, 0, none⟩ := by rcases p1 with h | h; omega; exact h
       have e10 : ss1 = some ⟨gs, 0, none⟩ := by rcases p4 with h | h; omega; exact h
       subst e9 e10
       have hkI : (k : Int) < (rn : Int) := by omega
       obtain ⟨hth, S, hS, hRel⟩ := hSM
       obtain ⟨hthR0, hRW0⟩ := hRM
       have hstA : stB (M1 (Q1 k).ra.toNat) = true := by rw [hs0]; exact i4 _ hAn
       have hstB : stB (M1 (Q1 k).rb.toNat) = true := by rw [hs0]; exact i4 _ hBn
       obtain ⟨oa1, oa2, oa3⟩ := on_all (T := T) hstA hstB
       rw [oa1, oa2, oa3] at en
       have hTa : T.ra = (Q1 k).ra := by rw [← eT]; exact (to_ids Q1 k).1
       have hTb : T.rb = (Q1 k).rb := by rw [← eT]; exact (to_ids Q1 k).2.1
       have oT : rok T := eT ▸ ok_told (hok k hlt)
       have hal : alB T (S ((Q1 k).ra.toNat)) (S ((Q1 k).rb.toNat)) = true := by
        have h1 := ch_told hchk
        rw [eT] at h1
        unfold chB at h1
        rw [Bool.and_eq_true] at h1
        unfold alB
        rw [h1.1, (hRel _ hAn).st, (hRel _ hBn).st, hstA, hstB]; rfl
       have hone := fun W => rone_m T (S ((Q1 k).ra.toNat)) (S ((Q1 k).rb.toNat)) _ _ W oT (hRel _ hAn) (hRel _ hBn) hal
       obtain ⟨QO, eQO⟩ : ∃ q, onQ T (M1 (Q1 k).ra.toNat) (M1 (Q1 k).rb.toNat) = q := ⟨_, rfl⟩
       obtain ⟨XO, eXO⟩ : ∃ q, onX T (M1 (Q1 k).ra.toNat) (M1 (Q1 k).rb.toNat) = q := ⟨_, rfl⟩
       obtain ⟨YO, eYO⟩ : ∃ q, onY T (M1 (Q1 k).ra.toNat) (M1 (Q1 k).rb.toNat) = q := ⟨_, rfl⟩
       rw [eQO, eXO, eYO] at hone
       have hRk0 : wr.rangeAt gr (k * 14) [.int .i64 (Q1 k).ra, .int .i64 (Q1 k).rb, .float .f64 (Q1 k).r2, .float .f64 (Q1 k).r3, .float .f64 (Q1 k).r4, .float .f64 (Q1 k).r5, .float .f64 (Q1 k).r6, .float .f64 (Q1 k).r7, .float .f64 (Q1 k).r8, .float .f64 (Q1 k).r9, .float .f64 (Q1 k).r10, .float .f64 (Q1 k).r11, .int .i64 (Q1 k).ro, .float .f64 (Q1 k).r13] := by have h := hRW0 k hlt; rwa [Nat.zero_add] at h
       have c12 : wr.cell? ⟨gr, k * 14 + 12, none⟩ = some (.int .i64 (Q1 k).ro) := hRk0 12 _ rfl
       have okk := hok k hlt
       clear hal hchk hmay hs0 oa1 oa2 oa3 hstA hstB i4
       obtain ⟨bo, hbo⟩ : ∃ b : Bool, decide (0 ≤ (Q1 k).ro) = b := ⟨_, rfl⟩
       go_upto_if 104 with (fail)
       go_cut [18] from 93 to 181 (fun m18 wx => Fx [gr, gs] w2 wx ∧ wx.rangeAt gr (k * 14) (rc T) ∧ Rws wx gr 0 rn (setF Q1 k T) ∧ Sts wx gs 0 sn S ∧ wx.there gr 0 (rn * 14) ∧ wx.there gs 0 (sn * 5))
       case first =>
        cases bo
        rotate_left
        ·have ho : 0 ≤ (Q1 k).ro := of_decide_eq_true hbo
         have okP := hok (Q1 k).ro.toNat (by omega)
         have c13 : wr.cell? ⟨gr, k * 14 + 13, none⟩ = some (.float .f64 (Q1 k).r13) := hRk0 13 _ rfl
         have cP : wr.cell? ⟨gr, (Q1 k).ro.toNat * 14 + 11, none⟩ = some (.float .f64 (Q1 (Q1 k).ro.toNat).r11) := by have h := hRW0 (Q1 k).ro.toNat (by omega) 11 _ rfl; rwa [Nat.zero_add] at h
         repeat (first | go_values | go_skip | go_guarded | go_step | go_upon | go_back | dsimp only)
         refine wp_region_mono 16 rfl (fun i W v => match i with | 0 => v = .slice (some ⟨gr, 0, none⟩) rn rc1 | 1 => v = .int .i64 (k : Int) | 2 => v = .pointer (some ⟨gr, k * 14, none⟩) | 3 => v = .pointer (some ⟨gr, k * 14 + 13, none⟩) | 4 => v = .float .f64 (Q1 k).r13 | 5 => v = .slice (some ⟨gr, 0, none⟩) rn rc1 | 6 => v = .slice (some ⟨gr, 0, none⟩) rn rc1 | 7 => v = .int .i64 (k : Int) | 8 => v = .pointer (some ⟨gr, k * 14, none⟩) | 9 => v = .pointer (some ⟨gr, k * 14 + 12, none⟩) | 10 => v = .int .i64 (Q1 k).ro | 11 => v = .pointer (some ⟨gr, (Q1 k).ro.toNat * 14, none⟩) | 12 => v = .pointer (some ⟨gr, (Q1 k).ro.toNat * 14 + 11, none⟩) | 13 => v = .float .f64 (Q1 (Q1 k).ro.toNat).r11 | 14 => ∃ p, isF p (oF .mul (bitsK (Q1 k).r13) (bitsK (Q1 (Q1 k).ro.toNat).r11)) ∧ v = .float .f64 p | 15 => ∃ p, isF p (oF .mul (bitsK (Q1 k).r13) (bitsK (Q1 (Q1 k).ro.toNat).r11)) ∧ v = .float .f64 p | _ => False) ?A_w23 (by kernel_rfl) (by kernel_rfl) ?hA_w23 ?hmo_w23 ?hq_w23 ?ht_w23
         case hA_w23 =>
          intro s
          simp only [putL, dstO, Act.put, List.getElem?_toArray, List.getElem?_cons_zero, List.getElem?_cons_succ, Option.bind_some, List.setIfInBounds_toArray, List.set_cons_zero, List.set_cons_succ, if_true]
          all_goals exact rfl
         case hmo_w23 =>
          intro i W W' v hi hb h
          rcases (show i = 0 ∨ i = 1 ∨ i = 2 ∨ i = 3 ∨ i = 4 ∨ i = 5 ∨ i = 6 ∨ i = 7 ∨ i = 8 ∨ i = 9 ∨ i = 10 ∨ i = 11 ∨ i = 12 ∨ i = 13 ∨ i = 14 ∨ i = 15 by omega) with rfl | rfl | rfl | rfl | rfl | rfl | rfl | rfl | rfl | rfl | rfl | rfl | rfl | rfl | rfl | rfl
          all_goals exact h
         case hq_w23 =>
          intro i o hi ho s W hs hb K hK
          have q1 := run_mul Try.prog; have u0 := keep hb c12; have u1 := keep hb c13; have u2 := keep hb cP
          rcases (show i = 0 ∨ i = 1 ∨ i = 2 ∨ i = 3 ∨ i = 4 ∨ i = 5 ∨ i = 6 ∨ i = 7 ∨ i = 8 ∨ i = 9 ∨ i = 10 ∨ i = 11 ∨ i = 12 ∨ i = 13 ∨ i = 14 ∨ i = 15 by omega) with rfl | rfl | rfl | rfl | rfl | rfl | rfl | rfl | rfl | rfl | rfl | rfl | rfl | rfl | rfl | rfl
          rotate_left 2
          cases ho
          have e0 : s 0 = _ := hs 0 (by decide) (by kernel_rfl)
          have e1 : s 1 = _ := hs 1 (by decide) (by kernel_rfl)
          simp only [e0, e1] at hK ⊢
          rotate_left 1
          cases ho
          have e2 : s 2 = _ := hs 2 (by decide) (by kernel_rfl)
          simp only [e2] at hK ⊢
          rotate_left 1
          cases ho
          have e3 : s 3 = _ := hs 3 (by decide) (by kernel_rfl)
          simp only [e3] at hK ⊢
          rotate_left 4
          cases ho
          have e6 : s 6 = _ := hs 6 (by decide) (by kernel_rfl)
          have e7 : s 7 = _ := hs 7 (by decide) (by kernel_rfl)
          simp only [e6, e7] at hK ⊢
          rotate_left 1
          cases ho
          have e8 : s 8 = _ := hs 8 (by decide) (by kernel_rfl)
          simp only [e8] at hK ⊢
          rotate_left 1
          cases ho
          have e9 : s 9 = _ := hs 9 (by decide) (by kernel_rfl)
          simp only [e9] at hK ⊢
          rotate_left 1
          cases ho
          have e5 : s 5 = _ := hs 5 (by decide) (by kernel_rfl)
          have e10 : s 10 = _ := hs 10 (by decide) (by kernel_rfl)
          simp only [e5, e10] at hK ⊢
          rotate_left 1
          cases ho
          have e11 : s 11 = _ := hs 11 (by decide) (by kernel_rfl)
          simp only [e11] at hK ⊢
          rotate_left 1
          cases ho
          have e12 : s 12 = _ := hs 12 (by decide) (by kernel_rfl)
          simp only [e12] at hK ⊢
          rotate_left 1
          ·cases ho
           have e4 : s 4 = _ := hs 4 (by decide) (by kernel_rfl)
           have e13 : s 13 = _ := hs 13 (by decide) (by kernel_rfl)
           simp only [e4, e13] at hK ⊢
           simp only [Act.put, List.setIfInBounds_toArray, List.set_cons_zero, List.set_cons_succ] at hK
           clear hs
           go_simp
           all_goals first | with_reducible exact hK.out _ _ ⟨_, o_is _ (isF_r okk.2.2.2.2.2.2.2.2.2.2) (isF_r okP.2.2.2.2.2.2.2.2.2.1), rfl⟩ (by first | exact bl_refl _ | exact bl_drewN (bl_refl _) _ | exact bl_drew (bl_refl _)) | exact hK.out _ _ ⟨_, o_is _ (isF_r okk.2.2.2.2.2.2.2.2.2.2) (isF_r okP.2.2.2.2.2.2.2.2.2.1), rfl⟩ (by first | exact bl_refl _ | exact bl_drewN (bl_refl _) _ | exact bl_drew (bl_refl _)) | with_reducible exact hK.out _ _ rfl (bl_refl _) | exact hK.out _ _ rfl (bl_refl _)
          ·cases ho
           obtain ⟨p14, h14, e14⟩ := hs 14 (by decide) (by kernel_rfl)
           simp only [e14] at hK ⊢
           simp only [Act.put, List.setIfInBounds_toArray, List.set_cons_zero, List.set_cons_succ] at hK
           clear hs
           go_simp
           all_goals first | with_reducible exact hK.out _ _ ⟨_, h14, rfl⟩ (bl_refl _) | exact hK.out _ _ ⟨_, h14, rfl⟩ (bl_refl _) | with_reducible exact hK.out _ _ rfl (bl_refl _) | exact hK.out _ _ rfl (bl_refl _)
          all_goals
           try cases ho
           simp only [Act.put, List.setIfInBounds_toArray, List.set_cons_zero, List.set_cons_succ] at hK
           clear hs
           go_simp
           all_goals first | with_reducible exact hK.out _ _ rfl (bl_refl _) | exact hK.out _ _ rfl (bl_refl _)
         case ht_w23 =>
          intro s W hs hb
          have e0 : s 0 = _ := hs 0 (by decide)
          have e1 : s 1 = _ := hs 1 (by decide)
          have e2 : s 2 = _ := hs 2 (by decide)
          have e3 : s 3 = _ := hs 3 (by decide)
          have e4 : s 4 = _ := hs 4 (by decide)
          have e5 : s 5 = _ := hs 5 (by decide)
          have e6 : s 6 = _ := hs 6 (by decide)
          have e7 : s 7 = _ := hs 7 (by decide)
          have e8 : s 8 = _ := hs 8 (by decide)
          have e9 : s 9 = _ := hs 9 (by decide)
          have e10 : s 10 = _ := hs 10 (by decide)
          have e11 : s 11 = _ := hs 11 (by decide)
          have e12 : s 12 = _ := hs 12 (by decide)
          have e13 : s 13 = _ := hs 13 (by decide)
          obtain ⟨p14, h14, e14⟩ := hs 14 (by decide)
          obtain ⟨p15, h15, e15⟩ := hs 15 (by decide)
          simp only [e0, e1, e2, e3, e4, e5, e6, e7, e8, e9, e10, e11, e12, e13, e14, e15]
          clear hs e0 e1 e2 e3 e4 e5 e6 e7 e8 e9 e10 e11 e12 e13 e14 e15
          have hRk8 := rng_bel hRk0 hb
          have hRW8 : Rws W gr 0 rn Q1 := hRW0.bel hb
          have hS8 : Sts W gs 0 sn S := hS.bel hb
          have hthR8 := bel_there hthR0 hb
          have hthS8 := bel_there hth hb
          have hFF8 := hF.trans (Fx.of_bel hb)
          clear c12 c13 cP
          obtain hz | hz : ltK .f64 0 p15 = false ∨ ltK .f64 0 p15 = true := by cases ltK .f64 0 p15 <;> simp
          ·have e0 : enF (Q1 k) (Q1 (Q1 k).ro.toNat).r11 = 0 := by unfold enF; rw [← lt0_is h15, hz]; rfl
           have eT1 : T = { Q1 k with r9 := oF .sub 0 0, r10 := 0 } := by rw [← eT]; unfold toR; rw [if_pos ho, e0]
           have oEN : okK .f64 0 := ok_zero
           have pEN : ltK .f64 0 0 = true ∨ (0 : Nat) = 0 := .inr rfl
           have qz := run_sub0 (oEN : okK .f64 0) pEN
           have b9 := (hthR8 (k * 14 + 9) (by omega)).1
           have f9 := (hthR8 (k * 14 + 9) (by omega)).2
           have b10 := (hthR8 (k * 14 + 10) (by omega)).1
           have f10 := (hthR8 (k * 14 + 10) (by omega)).2
           rw [Nat.zero_add] at b9 f9 b10 f10
           obtain ⟨u9, hu9⟩ := Option.isSome_iff_exists.1 b9
           obtain ⟨u10, hu10⟩ := Option.isSome_iff_exists.1 b10
           repeat (first | go_values | go_skip | go_guarded | go_step | go_upon | go_back | dsimp only)
           obtain ⟨w7, hw7⟩ : ∃ x, ((W.setCell ⟨gr, k * 14 + 9, none⟩ (.float .f64 (oF .sub 0 0))).setCell ⟨gr, k * 14 + 10, none⟩ (.float .f64 0)) = x := ⟨_, rfl⟩
           rw [hw7]
           have F7 : Fx [gr] W w7 := by
            rw [← hw7]
            exact ((Fx.refl [gr] _).sets (g := gr) (by simp) (k * 14 + 9) [.float .f64 (oF .sub 0 0)]).sets (g := gr) (by simp) (k * 14 + 10) [.float .f64 0]
           have k9 : w7.cell? ⟨gr, k * 14 + 9, none⟩ = some (.float .f64 (oF .sub 0 0)) := by
            rw [← hw7, World.cell?_setCell_other _ _ _ _ (by intro e; injection e with _ e2; omega)]
            exact set_here9 b9
           have k10 : w7.cell? ⟨gr, k * 14 + 10, none⟩ = some (.float .f64 0) := by
            rw [← hw7]
            exact set_here9 (by rw [World.cell?_setCell_other _ _ _ _ (by intro e; injection e with _ e2; omega)]; exact b10)
           have hRk9 : w7.rangeAt gr (k * 14) [.int .i64 T.ra, .int .i64 T.rb, .float .f64 T.r2, .float .f64 T.r3, .float .f64 T.r4, .float .f64 T.r5, .float .f64 T.r6, .float .f64 T.r7, .float .f64 T.r8, .float .f64 T.r9, .float .f64 T.r10, .float .f64 T.r11, .int .i64 T.ro, .float .f64 T.r13] := by
            rw [eT1]
            exact rng_ends hRk8 (fun j v hj => by rcases j with _ | j; (cases hj; exact k9); cases hj) (fun j v hj => by rcases j with _ | j; (cases hj; exact k10); cases hj) (fun q n1 n2 => by rw [← hw7, World.cell?_setCell_other _ _ _ _ (by intro e; injection e with _ e2; omega), World.cell?_setCell_other _ _ _ _ (by intro e; injection e with _ e2; omega)])
           have hRW7 := rws_one (T := T) hRW8 hRk9 (fun q n1 => by rw [← hw7, World.cell?_setCell_other _ _ _ _ (by intro e; injection e with _ e2; omega), World.cell?_setCell_other _ _ _ _ (by intro e; injection e with _ e2; omega)])
           have hS7 : Sts w7 gs 0 sn S := fun i hi => F7.rng (by simp only [List.mem_singleton]; omega) (hS8 i hi)
           have hthR7 := F7.thr _ _ _ hthR8
           have hthS7 := F7.thr _ _ _ hthS8
           have hFF := hFF8.trans (F7.mono3 gs)
           clear k9 k10 hw7 b9 f9 b10 f10 hu9 hu10 qz
           go_meet
           exact ⟨hFF, hRk9, hRW7, hS7, hthR7, hthS7⟩
          ·have e0 : enF (Q1 k) (Q1 (Q1 k).ro.toNat).r11 = p15 := by
            have e1 : enF (Q1 k) (Q1 (Q1 k).ro.toNat).r11 = oF .mul (bitsK (Q1 k).r13) (bitsK (Q1 (Q1 k).ro.toNat).r11) := by unfold enF; rw [← lt0_is h15, hz]; rfl
            rw [e1, ← h15.2, bits_num (lt_nums0 hz)]
           have eT1 : T = { Q1 k with r9 := oF .sub 0 p15, r10 := p15 } := by rw [← eT]; unfold toR; rw [if_pos ho, e0]
           have oEN : okK .f64 p15 := h15.1
           have pEN : ltK .f64 0 p15 = true ∨ p15 = 0 := .inl hz
           have qz := run_sub0 (oEN : okK .f64 p15) pEN
           have b9 := (hthR8 (k * 14 + 9) (by omega)).1
           have f9 := (hthR8 (k * 14 + 9) (by omega)).2
           have b10 := (hthR8 (k * 14 + 10) (by omega)).1
           have f10 := (hthR8 (k * 14 + 10) (by omega)).2
           rw [Nat.zero_add] at b9 f9 b10 f10
           obtain ⟨u9, hu9⟩ := Option.isSome_iff_exists.1 b9
           obtain ⟨u10, hu10⟩ := Option.isSome_iff_exists.1 b10
           repeat (first | go_values | go_skip | go_guarded | go_step | go_upon | go_back | dsimp only)
           obtain ⟨w7, hw7⟩ : ∃ x, ((W.setCell ⟨gr, k * 14 + 9, none⟩ (.float .f64 (oF .sub 0 p15))).setCell ⟨gr, k * 14 + 10, none⟩ (.float .f64 p15)) = x := ⟨_, rfl⟩
           rw [hw7]
           have F7 : Fx [gr] W w7 := by
            rw [← hw7]
            exact ((Fx.refl [gr] _).sets (g := gr) (by simp) (k * 14 + 9) [.float .f64 (oF .sub 0 p15)]).sets (g := gr) (by simp) (k * 14 + 10) [.float .f64 p15]
           have k9 : w7.cell? ⟨gr, k * 14 + 9, none⟩ = some (.float .f64 (oF .sub 0 p15)) := by
            rw [← hw7, World.cell?_setCell_other _ _ _ _ (by intro e; injection e with _ e2; omega)]
            exact set_here9 b9
           have k10 : w7.cell? ⟨gr, k * 14 + 10, none⟩ = some (.float .f64 p15) := by
            rw [← hw7]
            exact set_here9 (by rw [World.cell?_setCell_other _ _ _ _ (by intro e; injection e with _ e2; omega)]; exact b10)
           have hRk9 : w7.rangeAt gr (k * 14) [.int .i64 T.ra, .int .i64 T.rb, .float .f64 T.r2, .float .f64 T.r3, .float .f64 T.r4, .float .f64 T.r5, .float .f64 T.r6, .float .f64 T.r7, .float .f64 T.r8, .float .f64 T.r9, .float .f64 T.r10, .float .f64 T.r11, .int .i64 T.ro, .float .f64 T.r13] := by
            rw [eT1]
            exact rng_ends hRk8 (fun j v hj => by rcases j with _ | j; (cases hj; exact k9); cases hj) (fun j v hj => by rcases j with _ | j; (cases hj; exact k10); cases hj) (fun q n1 n2 => by rw [← hw7, World.cell?_setCell_other _ _ _ _ (by intro e; injection e with _ e2; omega), World.cell?_setCell_other _ _ _ _ (by intro e; injection e with _ e2; omega)])
           have hRW7 := rws_one (T := T) hRW8 hRk9 (fun q n1 => by rw [← hw7, World.cell?_setCell_other _ _ _ _ (by intro e; injection e with _ e2; omega), World.cell?_setCell_other _ _ _ _ (by intro e; injection e with _ e2; omega)])
           have hS7 : Sts w7 gs 0 sn S := fun i hi => F7.rng (by simp only [List.mem_singleton]; omega) (hS8 i hi)
           have hthR7 := F7.thr _ _ _ hthR8
           have hthS7 := F7.thr _ _ _ hthS8
           have hFF := hFF8.trans (F7.mono3 gs)
           clear k9 k10 hw7 b9 f9 b10 f10 hu9 hu10 qz
           go_meet
           exact ⟨hFF, hRk9, hRW7, hS7, hthR7, hthS7⟩
        ·have ho : ¬ 0 ≤ (Q1 k).ro := of_decide_eq_false hbo
         have eT1 : T = Q1 k := by rw [← eT]; unfold toR; rw [if_neg ho]
         repeat (first | go_values | go_skip | go_guarded | go_step | go_upon | go_back | dsimp only)
         go_meet
         rw [eT1, setF_self]
         exact ⟨hF, hRk0, hRW0, hS, hthR0, hth⟩
       case rest =>
        obtain ⟨hFF, hRk9, hRW7, hS7, hthR7, hthS7⟩ := hcut
        obtain ⟨w7, rfl⟩ : ∃ x, x = wc := ⟨_, rfl⟩
        have hRk9 : w7.rangeAt gr (k * 14) [.int .i64 T.ra, .int .i64 T.rb, .float .f64 T.r2, .float .f64 T.r3, .float .f64 T.r4, .float .f64 T.r5, .float .f64 T.r6, .float .f64 T.r7, .float .f64 T.r8, .float .f64 T.r9, .float .f64 T.r10, .float .f64 T.r11, .int .i64 T.ro, .float .f64 T.r13] := hRk9
        clear hRW0 hRk0 hS hth hthR0 hF c12
        have hA9 : w7.rangeAt gs ((Q1 k).ra.toNat * 5) [.float .f64 (S (Q1 k).ra.toNat).sm, .float .f64 (S (Q1 k).ra.toNat).si, .float .f64 (S (Q1 k).ra.toNat).sx, .float .f64 (S (Q1 k).ra.toNat).sy, .float .f64 (S (Q1 k).ra.toNat).ss] := by have h := hS7 _ hAn; rwa [Nat.zero_add] at h
        have hB9 : w7.rangeAt gs ((Q1 k).rb.toNat * 5) [.float .f64 (S (Q1 k).rb.toNat).sm, .float .f64 (S (Q1 k).rb.toNat).si, .float .f64 (S (Q1 k).rb.toNat).sx, .float .f64 (S (Q1 k).rb.toNat).sy, .float .f64 (S (Q1 k).rb.toNat).ss] := by have h := hS7 _ hBn; rwa [Nat.zero_add] at h
        have c0 : w7.cell? ⟨gr, k * 14, none⟩ = some (.int .i64 (Q1 k).ra) := by have h := hRk9 0 _ rfl; rw [hTa] at h; exact h
        have c1 : w7.cell? ⟨gr, k * 14 + 1, none⟩ = some (.int .i64 (Q1 k).rb) := by have h := hRk9 1 _ rfl; rw [hTb] at h; exact h
        clear hTa hTb eT
        have hgrw : gr < w7.heap.size := World.block_lt_of_cell? w7 _ c0
        have hgsw : gs < w7.heap.size := sts_lt hS7 hAn
        repeat (first | go_values | go_skip | go_guarded | go_step | go_upon | go_back | dsimp only)
        refine wp_region_new 33 rfl (fun i v => match i with | 0 => v = .slice (some ⟨gr, 0, none⟩) rn rc1 | 1 => v = .int .i64 (k : Int) | 2 => v = .pointer (some ⟨gr, k * 14, none⟩) | 3 => v = .agg #[.int .i64 T.ra, .int .i64 T.rb, .float .f64 T.r2, .float .f64 T.r3, .float .f64 T.r4, .float .f64 T.r5, .float .f64 T.r6, .float .f64 T.r7, .float .f64 T.r8, .float .f64 T.r9, .float .f64 T.r10, .float .f64 T.r11, .int .i64 T.ro, .float .f64 T.r13] | 4 => v = .slice (some ⟨gs, 0, none⟩) sn sc1 | 5 => v = .slice (some ⟨gr, 0, none⟩) rn rc1 | 6 => v = .int .i64 (k : Int) | 7 => v = .pointer (some ⟨gr, k * 14, none⟩) | 8 => v = .pointer (some ⟨gr, k * 14, none⟩) | 9 => v = .int .i64 (Q1 k).ra | 10 => v = .pointer (some ⟨gs, (Q1 k).ra.toNat * 5, none⟩) | 11 => v = .agg #[.float .f64 (S (Q1 k).ra.toNat).sm, .float .f64 (S (Q1 k).ra.toNat).si, .float .f64 (S (Q1 k).ra.toNat).sx, .float .f64 (S (Q1 k).ra.toNat).sy, .float .f64 (S (Q1 k).ra.toNat).ss] | 12 => v = .slice (some ⟨gs, 0, none⟩) sn sc1 | 13 => v = .slice (some ⟨gr, 0, none⟩) rn rc1 | 14 => v = .int .i64 (k : Int) | 15 => v = .pointer (some ⟨gr, k * 14, none⟩) | 16 => v = .pointer (some ⟨gr, k * 14 + 1, none⟩) | 17 => v = .int .i64 (Q1 k).rb | 18 => v = .pointer (some ⟨gs, (Q1 k).rb.toNat * 5, none⟩) | 19 => v = .agg #[.float .f64 (S (Q1 k).rb.toNat).sm, .float .f64 (S (Q1 k).rb.toNat).si, .float .f64 (S (Q1 k).rb.toNat).sx, .float .f64 (S (Q1 k).rb.toNat).sy, .float .f64 (S (Q1 k).rb.toNat).ss] | 20 => ∃ A B : SD, RelS A XO ∧ RelS B YO ∧ v = .tuple #[.agg #[.int .i64 QO.ra, .int .i64 QO.rb, .float .f64 QO.r2, .float .f64 QO.r3, .float .f64 QO.r4, .float .f64 QO.r5, .float .f64 QO.r6, .float .f64 QO.r7, .float .f64 QO.r8, .float .f64 QO.r9, .float .f64 QO.r10, .float .f64 QO.r11, .int .i64 QO.ro, .float .f64 QO.r13], .agg #[.float .f64 A.sm, .float .f64 A.si, .float .f64 A.sx, .float .f64 A.sy, .float .f64 A.ss], .agg #[.float .f64 B.sm, .float .f64 B.si, .float .f64 B.sx, .float .f64 B.sy, .float .f64 B.ss], .int .i64 0] | 21 => ∃ A B : SD, RelS A XO ∧ RelS B YO ∧ v = .tuple #[.agg #[.int .i64 QO.ra, .int .i64 QO.rb, .float .f64 QO.r2, .float .f64 QO.r3, .float .f64 QO.r4, .float .f64 QO.r5, .float .f64 QO.r6, .float .f64 QO.r7, .float .f64 QO.r8, .float .f64 QO.r9, .float .f64 QO.r10, .float .f64 QO.r11, .int .i64 QO.ro, .float .f64 QO.r13], .agg #[.float .f64 A.sm, .float .f64 A.si, .float .f64 A.sx, .float .f64 A.sy, .float .f64 A.ss], .agg #[.float .f64 B.sm, .float .f64 B.si, .float .f64 B.sx, .float .f64 B.sy, .float .f64 B.ss], .int .i64 0] | 22 => v = .agg #[.int .i64 QO.ra, .int .i64 QO.rb, .float .f64 QO.r2, .float .f64 QO.r3, .float .f64 QO.r4, .float .f64 QO.r5, .float .f64 QO.r6, .float .f64 QO.r7, .float .f64 QO.r8, .float .f64 QO.r9, .float .f64 QO.r10, .float .f64 QO.r11, .int .i64 QO.ro, .float .f64 QO.r13] | 23 => ∃ A : SD, RelS A XO ∧ v = .agg #[.float .f64 A.sm, .float .f64 A.si, .float .f64 A.sx, .float .f64 A.sy, .float .f64 A.ss] | 24 => ∃ B : SD, RelS B YO ∧ v = .agg #[.float .f64 B.sm, .float .f64 B.si, .float .f64 B.sx, .float .f64 B.sy, .float .f64 B.ss] | 25 => v = .int .i64 0 | 32 => v = .int .i64 0 | _ => False) [(26, #[.int .i64 0, .int .i64 0, .float .f64 0, .float .f64 0, .float .f64 0, .float .f64 0, .float .f64 0, .float .f64 0, .float .f64 0, .float .f64 0, .float .f64 0, .float .f64 0, .int .i64 0, .float .f64 0], 43), (27, #[.float .f64 0, .float .f64 0, .float .f64 0, .float .f64 0, .float .f64 0], 45), (28, #[.float .f64 0, .float .f64 0, .float .f64 0, .float .f64 0, .float .f64 0], 45)] [(29, 26, 22), (30, 27, 23), (31, 28, 24)] ?A_w28c (by kernel_rfl) (by kernel_rfl) ?hA_w28c ?ha_w28c ?hst_w28c ?hq_w28c ?ht_w28c
        case hA_w28c =>
         intro s
         simp only [putL, dstO, Act.put, List.getElem?_toArray, List.getElem?_cons_zero, List.getElem?_cons_succ, Option.bind_some, List.setIfInBounds_toArray, List.set_cons_zero, List.set_cons_succ, if_true]
         all_goals exact rfl
        case ha_w28c =>
         intro i o c ty hi ho hal B W K hK
         rcases (show i = 0 ∨ i = 1 ∨ i = 2 ∨ i = 3 ∨ i = 4 ∨ i = 5 ∨ i = 6 ∨ i = 7 ∨ i = 8 ∨ i = 9 ∨ i = 10 ∨ i = 11 ∨ i = 12 ∨ i = 13 ∨ i = 14 ∨ i = 15 ∨ i = 16 ∨ i = 17 ∨ i = 18 ∨ i = 19 ∨ i = 20 ∨ i = 21 ∨ i = 22 ∨ i = 23 ∨ i = 24 ∨ i = 25 ∨ i = 26 ∨ i = 27 ∨ i = 28 ∨ i = 29 ∨ i = 30 ∨ i = 31 ∨ i = 32 by omega) with rfl | rfl | rfl | rfl | rfl | rfl | rfl | rfl | rfl | rfl | rfl | rfl | rfl | rfl | rfl | rfl | rfl | rfl | rfl | rfl | rfl | rfl | rfl | rfl | rfl | rfl | rfl | rfl | rfl | rfl | rfl | rfl | rfl
         ·cases (show none = some (c, ty) from hal)
         ·cases (show none = some (c, ty) from hal)
         ·cases (show none = some (c, ty) from hal)
         ·cases (show none = some (c, ty) from hal)
         ·cases (show none = some (c, ty) from hal)
         ·cases (show none = some (c, ty) from hal)
         ·cases (show none = some (c, ty) from hal)
         ·cases (show none = some (c, ty) from hal)
         ·cases (show none = some (c, ty) from hal)
         ·cases (show none = some (c, ty) from hal)
         ·cases (show none = some (c, ty) from hal)
         ·cases (show none = some (c, ty) from hal)
         ·cases (show none = some (c, ty) from hal)
         ·cases (show none = some (c, ty) from hal)
         ·cases (show none = some (c, ty) from hal)
         ·cases (show none = some (c, ty) from hal)
         ·cases (show none = some (c, ty) from hal)
         ·cases (show none = some (c, ty) from hal)
         ·cases (show none = some (c, ty) from hal)
         ·cases (show none = some (c, ty) from hal)
         ·cases (show none = some (c, ty) from hal)
         ·cases (show none = some (c, ty) from hal)
         ·cases (show none = some (c, ty) from hal)
         ·cases (show none = some (c, ty) from hal)
         ·cases (show none = some (c, ty) from hal)
         ·cases (show none = some (c, ty) from hal)
         ·cases ho; cases (show some (#[.int .i64 0, .int .i64 0, .float .f64 0, .float .f64 0, .float .f64 0, .float .f64 0, .float .f64 0, .float .f64 0, .float .f64 0, .float .f64 0, .float .f64 0, .float .f64 0, .int .i64 0, .float .f64 0], 43) = some (c, ty) from hal); go_simp; exact hK.out
         ·cases ho; cases (show some (#[.float .f64 0, .float .f64 0, .float .f64 0, .float .f64 0, .float .f64 0], 45) = some (c, ty) from hal); go_simp; exact hK.out
         ·cases ho; cases (show some (#[.float .f64 0, .float .f64 0, .float .f64 0, .float .f64 0, .float .f64 0], 45) = some (c, ty) from hal); go_simp; exact hK.out
         ·cases (show none = some (c, ty) from hal)
         ·cases (show none = some (c, ty) from hal)
         ·cases (show none = some (c, ty) from hal)
         ·cases (show none = some (c, ty) from hal)
        case hst_w28c =>
         intro t o a d c ty hlt ho hts hal s hs W b eb hc hf K hK
         rcases (show t = 0 ∨ t = 1 ∨ t = 2 ∨ t = 3 ∨ t = 4 ∨ t = 5 ∨ t = 6 ∨ t = 7 ∨ t = 8 ∨ t = 9 ∨ t = 10 ∨ t = 11 ∨ t = 12 ∨ t = 13 ∨ t = 14 ∨ t = 15 ∨ t = 16 ∨ t = 17 ∨ t = 18 ∨ t = 19 ∨ t = 20 ∨ t = 21 ∨ t = 22 ∨ t = 23 ∨ t = 24 ∨ t = 25 ∨ t = 26 ∨ t = 27 ∨ t = 28 ∨ t = 29 ∨ t = 30 ∨ t = 31 ∨ t = 32 by omega) with rfl | rfl | rfl | rfl | rfl | rfl | rfl | rfl | rfl | rfl | rfl | rfl | rfl | rfl | rfl | rfl | rfl | rfl | rfl | rfl | rfl | rfl | rfl | rfl | rfl | rfl | rfl | rfl | rfl | rfl | rfl | rfl | rfl
         ·cases (show none = some (a, d) from hts)
         ·cases (show none = some (a, d) from hts)
         ·cases (show none = some (a, d) from hts)
         ·cases (show none = some (a, d) from hts)
         ·cases (show none = some (a, d) from hts)
         ·cases (show none = some (a, d) from hts)
         ·cases (show none = some (a, d) from hts)
         ·cases (show none = some (a, d) from hts)
         ·cases (show none = some (a, d) from hts)
         ·cases (show none = some (a, d) from hts)
         ·cases (show none = some (a, d) from hts)
         ·cases (show none = some (a, d) from hts)
         ·cases (show none = some (a, d) from hts)
         ·cases (show none = some (a, d) from hts)
         ·cases (show none = some (a, d) from hts)
         ·cases (show none = some (a, d) from hts)
         ·cases (show none = some (a, d) from hts)
         ·cases (show none = some (a, d) from hts)
         ·cases (show none = some (a, d) from hts)
         ·cases (show none = some (a, d) from hts)
         ·cases (show none = some (a, d) from hts)
         ·cases (show none = some (a, d) from hts)
         ·cases (show none = some (a, d) from hts)
         ·cases (show none = some (a, d) from hts)
         ·cases (show none = some (a, d) from hts)
         ·cases (show none = some (a, d) from hts)
         ·cases (show none = some (a, d) from hts)
         ·cases (show none = some (a, d) from hts)
         ·cases (show none = some (a, d) from hts)
         ·cases ho; cases (show some (26, 22) = some (a, d) from hts); cases (show some (#[.int .i64 0, .int .i64 0, .float .f64 0, .float .f64 0, .float .f64 0, .float .f64 0, .float .f64 0, .float .f64 0, .float .f64 0, .float .f64 0, .float .f64 0, .float .f64 0, .int .i64 0, .float .f64 0], 43) = some (c, ty) from hal)
          have e22 : s 22 = _ := hs 22 (by decide) rfl rfl (by kernel_rfl)
          obtain ⟨u0, hu0⟩ := Option.isSome_iff_exists.1 (hc 0 (by decide))
          obtain ⟨u1, hu1⟩ := Option.isSome_iff_exists.1 (hc 1 (by decide))
          obtain ⟨u2, hu2⟩ := Option.isSome_iff_exists.1 (hc 2 (by decide))
          obtain ⟨u3, hu3⟩ := Option.isSome_iff_exists.1 (hc 3 (by decide))
          obtain ⟨u4, hu4⟩ := Option.isSome_iff_exists.1 (hc 4 (by decide))
          obtain ⟨u5, hu5⟩ := Option.isSome_iff_exists.1 (hc 5 (by decide))
          obtain ⟨u6, hu6⟩ := Option.isSome_iff_exists.1 (hc 6 (by decide))
          obtain ⟨u7, hu7⟩ := Option.isSome_iff_exists.1 (hc 7 (by decide))
          obtain ⟨u8, hu8⟩ := Option.isSome_iff_exists.1 (hc 8 (by decide))
          obtain ⟨u9, hu9⟩ := Option.isSome_iff_exists.1 (hc 9 (by decide))
          obtain ⟨u10, hu10⟩ := Option.isSome_iff_exists.1 (hc 10 (by decide))
          obtain ⟨u11, hu11⟩ := Option.isSome_iff_exists.1 (hc 11 (by decide))
          obtain ⟨u12, hu12⟩ := Option.isSome_iff_exists.1 (hc 12 (by decide))
          obtain ⟨u13, hu13⟩ := Option.isSome_iff_exists.1 (hc 13 (by decide))
          simp only [eb, e22] at hK ⊢
          clear hs
          go_simp
          exact hK.out
         ·cases ho; cases (show some (27, 23) = some (a, d) from hts); cases (show some (#[.float .f64 0, .float .f64 0, .float .f64 0, .float .f64 0, .float .f64 0], 45) = some (c, ty) from hal)
          obtain ⟨A3, q3, e23⟩ := hs 23 (by decide) rfl rfl (by kernel_rfl)
          obtain ⟨u0, hu0⟩ := Option.isSome_iff_exists.1 (hc 0 (by decide))
          obtain ⟨u1, hu1⟩ := Option.isSome_iff_exists.1 (hc 1 (by decide))
          obtain ⟨u2, hu2⟩ := Option.isSome_iff_exists.1 (hc 2 (by decide))
          obtain ⟨u3, hu3⟩ := Option.isSome_iff_exists.1 (hc 3 (by decide))
          obtain ⟨u4, hu4⟩ := Option.isSome_iff_exists.1 (hc 4 (by decide))
          simp only [eb, e23] at hK ⊢
          clear hs
          go_simp
          exact hK.out
         ·cases ho; cases (show some (28, 24) = some (a, d) from hts); cases (show some (#[.float .f64 0, .float .f64 0, .float .f64 0, .float .f64 0, .float .f64 0], 45) = some (c, ty) from hal)
          obtain ⟨B3, q4, e24⟩ := hs 24 (by decide) rfl rfl (by kernel_rfl)
          obtain ⟨u0, hu0⟩ := Option.isSome_iff_exists.1 (hc 0 (by decide))
          obtain ⟨u1, hu1⟩ := Option.isSome_iff_exists.1 (hc 1 (by decide))
          obtain ⟨u2, hu2⟩ := Option.isSome_iff_exists.1 (hc 2 (by decide))
          obtain ⟨u3, hu3⟩ := Option.isSome_iff_exists.1 (hc 3 (by decide))
          obtain ⟨u4, hu4⟩ := Option.isSome_iff_exists.1 (hc 4 (by decide))
          simp only [eb, e24] at hK ⊢
          clear hs
          go_simp
          exact hK.out
         ·cases (show none = some (a, d) from hts)
        case hq_w28c =>
         intro i o hi hal hts ho s hs W hb K hK
         have u0 := keep hb c0; have u1 := keep hb c1
         rcases (show i = 0 ∨ i = 1 ∨ i = 2 ∨ i = 3 ∨ i = 4 ∨ i = 5 ∨ i = 6 ∨ i = 7 ∨ i = 8 ∨ i = 9 ∨ i = 10 ∨ i = 11 ∨ i = 12 ∨ i = 13 ∨ i = 14 ∨ i = 15 ∨ i = 16 ∨ i = 17 ∨ i = 18 ∨ i = 19 ∨ i = 20 ∨ i = 21 ∨ i = 22 ∨ i = 23 ∨ i = 24 ∨ i = 25 ∨ i = 26 ∨ i = 27 ∨ i = 28 ∨ i = 29 ∨ i = 30 ∨ i = 31 ∨ i = 32 by omega) with rfl | rfl | rfl | rfl | rfl | rfl | rfl | rfl | rfl | rfl | rfl | rfl | rfl | rfl | rfl | rfl | rfl | rfl | rfl | rfl | rfl | rfl | rfl | rfl | rfl | rfl | rfl | rfl | rfl | rfl | rfl | rfl | rfl
         rotate_left 2
         cases ho
         have e0 : s 0 = _ := hs 0 (by decide) rfl rfl (by kernel_rfl)
         have e1 : s 1 = _ := hs 1 (by decide) rfl rfl (by kernel_rfl)
         simp only [e0, e1] at hK ⊢
         rotate_left 1
         ·cases ho
          have e2 : s 2 = _ := hs 2 (by decide) rfl rfl (by kernel_rfl)
          simp only [e2] at hK ⊢
          simp only [Act.put, List.setIfInBounds_toArray, List.set_cons_zero, List.set_cons_succ] at hK
          clear hs hal hts
          refine wp_load_mid (P := Try.prog) 43 _ rfl _ _ rfl [.int .i64 T.ra, .int .i64 T.rb, .float .f64 T.r2, .float .f64 T.r3, .float .f64 T.r4, .float .f64 T.r5, .float .f64 T.r6, .float .f64 T.r7, .float .f64 T.r8, .float .f64 T.r9, .float .f64 T.r10, .float .f64 T.r11, .int .i64 T.ro, .float .f64 T.r13] _ (rng_bel hRk9 hb) Try.underlying43 rfl (by kernel_rfl) ?_; exact hK.out _ _ rfl (bl_refl _)
         rotate_left 3
         cases ho
         have e5 : s 5 = _ := hs 5 (by decide) rfl rfl (by kernel_rfl)
         have e6 : s 6 = _ := hs 6 (by decide) rfl rfl (by kernel_rfl)
         simp only [e5, e6] at hK ⊢
         rotate_left 1
         cases ho
         have e7 : s 7 = _ := hs 7 (by decide) rfl rfl (by kernel_rfl)
         simp only [e7] at hK ⊢
         rotate_left 1
         cases ho
         have e8 : s 8 = _ := hs 8 (by decide) rfl rfl (by kernel_rfl)
         simp only [e8] at hK ⊢
         rotate_left 1
         cases ho
         have e4 : s 4 = _ := hs 4 (by decide) rfl rfl (by kernel_rfl)
         have e9 : s 9 = _ := hs 9 (by decide) rfl rfl (by kernel_rfl)
         simp only [e4, e9] at hK ⊢
         rotate_left 1
         ·cases ho
          have e10 : s 10 = _ := hs 10 (by decide) rfl rfl (by kernel_rfl)
          simp only [e10] at hK ⊢
          simp only [Act.put, List.setIfInBounds_toArray, List.set_cons_zero, List.set_cons_succ] at hK
          clear hs hal hts
          refine wp_load_mid (P := Try.prog) 45 _ rfl _ _ rfl [.float .f64 (S (Q1 k).ra.toNat).sm, .float .f64 (S (Q1 k).ra.toNat).si, .float .f64 (S (Q1 k).ra.toNat).sx, .float .f64 (S (Q1 k).ra.toNat).sy, .float .f64 (S (Q1 k).ra.toNat).ss] _ (rng_bel hA9 hb) Try.underlying45 rfl (by kernel_rfl) ?_; exact hK.out _ _ rfl (bl_refl _)
         rotate_left 3
         cases ho
         have e13 : s 13 = _ := hs 13 (by decide) rfl rfl (by kernel_rfl)
         have e14 : s 14 = _ := hs 14 (by decide) rfl rfl (by kernel_rfl)
         simp only [e13, e14] at hK ⊢
         rotate_left 1
         cases ho
         have e15 : s 15 = _ := hs 15 (by decide) rfl rfl (by kernel_rfl)
         simp only [e15] at hK ⊢
         rotate_left 1
         cases ho
         have e16 : s 16 = _ := hs 16 (by decide) rfl rfl (by kernel_rfl)
         simp only [e16] at hK ⊢
         rotate_left 1
         cases ho
         have e12 : s 12 = _ := hs 12 (by decide) rfl rfl (by kernel_rfl)
         have e17 : s 17 = _ := hs 17 (by decide) rfl rfl (by kernel_rfl)
         simp only [e12, e17] at hK ⊢
         rotate_left 1
         ·cases ho
          have e18 : s 18 = _ := hs 18 (by decide) rfl rfl (by kernel_rfl)
          simp only [e18] at hK ⊢
          simp only [Act.put, List.setIfInBounds_toArray, List.set_cons_zero, List.set_cons_succ] at hK
          clear hs hal hts
          refine wp_load_mid (P := Try.prog) 45 _ rfl _ _ rfl [.float .f64 (S (Q1 k).rb.toNat).sm, .float .f64 (S (Q1 k).rb.toNat).si, .float .f64 (S (Q1 k).rb.toNat).sx, .float .f64 (S (Q1 k).rb.toNat).sy, .float .f64 (S (Q1 k).rb.toNat).ss] _ (rng_bel hB9 hb) Try.underlying45 rfl (by kernel_rfl) ?_; exact hK.out _ _ rfl (bl_refl _)
         cases ho
         have e3 : s 3 = _ := hs 3 (by decide) rfl rfl (by kernel_rfl)
         have e11 : s 11 = _ := hs 11 (by decide) rfl rfl (by kernel_rfl)
         have e19 : s 19 = _ := hs 19 (by decide) rfl rfl (by kernel_rfl)
         simp only [e3, e11, e19] at hK ⊢
         rotate_left 1
         cases ho
         obtain ⟨A20, B20, q20, q20b, e20⟩ := hs 20 (by decide) rfl rfl (by kernel_rfl)
         simp only [e20] at hK ⊢
         rotate_left 1
         cases ho
         obtain ⟨A21, B21, q21, q21b, e21⟩ := hs 21 (by decide) rfl rfl (by kernel_rfl)
         simp only [e21] at hK ⊢
         rotate_left 1
         cases ho
         obtain ⟨A21, B21, q21, q21b, e21⟩ := hs 21 (by decide) rfl rfl (by kernel_rfl)
         simp only [e21] at hK ⊢
         rotate_left 1
         cases ho
         obtain ⟨A21, B21, q21, q21b, e21⟩ := hs 21 (by decide) rfl rfl (by kernel_rfl)
         simp only [e21] at hK ⊢
         rotate_left 1
         cases ho
         obtain ⟨A21, B21, q21, q21b, e21⟩ := hs 21 (by decide) rfl rfl (by kernel_rfl)
         simp only [e21] at hK ⊢
         rotate_left 1
         ·cases (show some _ = none from hal)
         ·cases (show some _ = none from hal)
         ·cases (show some _ = none from hal)
         ·cases (show some _ = none from hts)
         ·cases (show some _ = none from hts)
         ·cases (show some _ = none from hts)
         cases ho
         have e25 : s 25 = _ := hs 25 (by decide) rfl rfl (by kernel_rfl)
         simp only [e25] at hK ⊢
         rotate_left 1
         all_goals
          try cases ho
          simp only [Act.put, List.setIfInBounds_toArray, List.set_cons_zero, List.set_cons_succ] at hK
          clear hs hal hts
          go_simp
          all_goals (try go_wp2_with (first | (go_at_call 77; (with_reducible refine (hone _).mono ?_); rintro e w' ⟨A9, B9, q9, q9b, rfl, hb1⟩)))
          all_goals first | with_reducible exact hK.out _ _ ⟨A9, B9, q9, q9b, rfl⟩ hb1 | with_reducible exact hK.out _ _ ⟨A20, B20, q20, q20b, rfl⟩ (bl_refl _) | with_reducible exact hK.out _ _ ⟨A21, q21, rfl⟩ (bl_refl _) | with_reducible exact hK.out _ _ ⟨B21, q21b, rfl⟩ (bl_refl _) | with_reducible exact hK.out _ _ rfl (bl_refl _) | exact hK.out _ _ rfl (bl_refl _) | exact hK.out _ _ rfl (by assumption) | exact hK.out _ _ (by assumption) (by assumption)
        case ht_w28c =>
         intro s hs W hb hJ
         have e0 : s 0 = _ := hs 0 (by decide) rfl rfl
         have e1 : s 1 = _ := hs 1 (by decide) rfl rfl
         have e2 : s 2 = _ := hs 2 (by decide) rfl rfl
         have e3 : s 3 = _ := hs 3 (by decide) rfl rfl
         have e4 : s 4 = _ := hs 4 (by decide) rfl rfl
         have e5 : s 5 = _ := hs 5 (by decide) rfl rfl
         have e6 : s 6 = _ := hs 6 (by decide) rfl rfl
         have e7 : s 7 = _ := hs 7 (by decide) rfl rfl
         have e8 : s 8 = _ := hs 8 (by decide) rfl rfl
         have e9 : s 9 = _ := hs 9 (by decide) rfl rfl
         have e10 : s 10 = _ := hs 10 (by decide) rfl rfl
         have e11 : s 11 = _ := hs 11 (by decide) rfl rfl
         have e12 : s 12 = _ := hs 12 (by decide) rfl rfl
         have e13 : s 13 = _ := hs 13 (by decide) rfl rfl
         have e14 : s 14 = _ := hs 14 (by decide) rfl rfl
         have e15 : s 15 = _ := hs 15 (by decide) rfl rfl
         have e16 : s 16 = _ := hs 16 (by decide) rfl rfl
         have e17 : s 17 = _ := hs 17 (by decide) rfl rfl
         have e18 : s 18 = _ := hs 18 (by decide) rfl rfl
         have e19 : s 19 = _ := hs 19 (by decide) rfl rfl
         obtain ⟨A20, B20, q20, q20b, e20⟩ := hs 20 (by decide) rfl rfl
         obtain ⟨A21, B21, q21, q21b, e21⟩ := hs 21 (by decide) rfl rfl
         have e22 : s 22 = _ := hs 22 (by decide) rfl rfl
         obtain ⟨A3, q3, e23⟩ := hs 23 (by decide) rfl rfl
         obtain ⟨B3, q4, e24⟩ := hs 24 (by decide) rfl rfl
         have e25 : s 25 = _ := hs 25 (by decide) rfl rfl
         have e32 : s 32 = _ := hs 32 (by decide) rfl rfl
         obtain ⟨p26, e26, n26, l26, cl26⟩ := hJ.1 26 _ _ (by decide) rfl rfl
         have k_p26_0 : W.cell? ⟨p26, 0, none⟩ = some (cellAt (s 22) 0) := cl26 0 (by decide)
         have k_p26_1 : W.cell? ⟨p26, 1, none⟩ = some (cellAt (s 22) 1) := cl26 1 (by decide)
         have k_p26_2 : W.cell? ⟨p26, 2, none⟩ = some (cellAt (s 22) 2) := cl26 2 (by decide)
         have k_p26_3 : W.cell? ⟨p26, 3, none⟩ = some (cellAt (s 22) 3) := cl26 3 (by decide)
         have k_p26_4 : W.cell? ⟨p26, 4, none⟩ = some (cellAt (s 22) 4) := cl26 4 (by decide)
         have k_p26_5 : W.cell? ⟨p26, 5, none⟩ = some (cellAt (s 22) 5) := cl26 5 (by decide)
         have k_p26_6 : W.cell? ⟨p26, 6, none⟩ = some (cellAt (s 22) 6) := cl26 6 (by decide)
         have k_p26_7 : W.cell? ⟨p26, 7, none⟩ = some (cellAt (s 22) 7) := cl26 7 (by decide)
         have k_p26_8 : W.cell? ⟨p26, 8, none⟩ = some (cellAt (s 22) 8) := cl26 8 (by decide)
         have k_p26_9 : W.cell? ⟨p26, 9, none⟩ = some (cellAt (s 22) 9) := cl26 9 (by decide)
         have k_p26_10 : W.cell? ⟨p26, 10, none⟩ = some (cellAt (s 22) 10) := cl26 10 (by decide)
         have k_p26_11 : W.cell? ⟨p26, 11, none⟩ = some (cellAt (s 22) 11) := cl26 11 (by decide)
         have k_p26_12 : W.cell? ⟨p26, 12, none⟩ = some (cellAt (s 22) 12) := cl26 12 (by decide)
         have k_p26_13 : W.cell? ⟨p26, 13, none⟩ = some (cellAt (s 22) 13) := cl26 13 (by decide)
         rw [e22] at k_p26_0 k_p26_1 k_p26_2 k_p26_3 k_p26_4 k_p26_5 k_p26_6 k_p26_7 k_p26_8 k_p26_9 k_p26_10 k_p26_11 k_p26_12 k_p26_13
         simp only [cellAt] at k_p26_0 k_p26_1 k_p26_2 k_p26_3 k_p26_4 k_p26_5 k_p26_6 k_p26_7 k_p26_8 k_p26_9 k_p26_10 k_p26_11 k_p26_12 k_p26_13
         obtain ⟨p27, e27, n27, l27, cl27⟩ := hJ.1 27 _ _ (by decide) rfl rfl
         have k_p27_0 : W.cell? ⟨p27, 0, none⟩ = some (cellAt (s 23) 0) := cl27 0 (by decide)
         have k_p27_1 : W.cell? ⟨p27, 1, none⟩ = some (cellAt (s 23) 1) := cl27 1 (by decide)
         have k_p27_2 : W.cell? ⟨p27, 2, none⟩ = some (cellAt (s 23) 2) := cl27 2 (by decide)
         have k_p27_3 : W.cell? ⟨p27, 3, none⟩ = some (cellAt (s 23) 3) := cl27 3 (by decide)
         have k_p27_4 : W.cell? ⟨p27, 4, none⟩ = some (cellAt (s 23) 4) := cl27 4 (by decide)
         rw [e23] at k_p27_0 k_p27_1 k_p27_2 k_p27_3 k_p27_4
         simp only [cellAt] at k_p27_0 k_p27_1 k_p27_2 k_p27_3 k_p27_4
         obtain ⟨p28, e28, n28, l28, cl28⟩ := hJ.1 28 _ _ (by decide) rfl rfl
         have k_p28_0 : W.cell? ⟨p28, 0, none⟩ = some (cellAt (s 24) 0) := cl28 0 (by decide)
         have k_p28_1 : W.cell? ⟨p28, 1, none⟩ = some (cellAt (s 24) 1) := cl28 1 (by decide)
         have k_p28_2 : W.cell? ⟨p28, 2, none⟩ = some (cellAt (s 24) 2) := cl28 2 (by decide)
         have k_p28_3 : W.cell? ⟨p28, 3, none⟩ = some (cellAt (s 24) 3) := cl28 3 (by decide)
         have k_p28_4 : W.cell? ⟨p28, 4, none⟩ = some (cellAt (s 24) 4) := cl28 4 (by decide)
         rw [e24] at k_p28_0 k_p28_1 k_p28_2 k_p28_3 k_p28_4
         simp only [cellAt] at k_p28_0 k_p28_1 k_p28_2 k_p28_3 k_p28_4
         have ne2627 : p26 ≠ p27 := fun h => hJ.2 26 27 (by decide) (by decide) (by decide) rfl rfl rfl rfl (by rw [e26, e27, h])
         have ne2628 : p26 ≠ p28 := fun h => hJ.2 26 28 (by decide) (by decide) (by decide) rfl rfl rfl rfl (by rw [e26, e28, h])
         have ne2728 : p27 ≠ p28 := fun h => hJ.2 27 28 (by decide) (by decide) (by decide) rfl rfl rfl rfl (by rw [e27, e28, h])
         simp only [e0, e1, e2, e3, e4, e5, e6, e7, e8, e9, e10, e11, e12, e13, e14, e15, e16, e17, e18, e19, e20, e21, e22, e23, e24, e25, e32, e26, e27, e28]
         clear hs hJ e0 e1 e2 e3 e4 e5 e6 e7 e8 e9 e10 e11 e12 e13 e14 e15 e16 e17 e18 e19 e20 e21 e22 e23 e24 e25 e32 e26 e27 e28 cl26 cl27 cl28
         have hP26 : W.rangeAt p26 0 [.int .i64 QO.ra, .int .i64 QO.rb, .float .f64 QO.r2, .float .f64 QO.r3, .float .f64 QO.r4, .float .f64 QO.r5, .float .f64 QO.r6, .float .f64 QO.r7, .float .f64 QO.r8, .float .f64 QO.r9, .float .f64 QO.r10, .float .f64 QO.r11, .int .i64 QO.ro, .float .f64 QO.r13] := fun j v hj => by
          rw [Nat.zero_add]
          rcases (show j = 0 ∨ j = 1 ∨ j = 2 ∨ j = 3 ∨ j = 4 ∨ j = 5 ∨ j = 6 ∨ j = 7 ∨ j = 8 ∨ j = 9 ∨ j = 10 ∨ j = 11 ∨ j = 12 ∨ j = 13 from by have := (List.getElem?_eq_some_iff.1 hj).1; simp at this; omega) with rfl | rfl | rfl | rfl | rfl | rfl | rfl | rfl | rfl | rfl | rfl | rfl | rfl | rfl <;> (cases hj; assumption)
         have hP27 : W.rangeAt p27 0 [.float .f64 A3.sm, .float .f64 A3.si, .float .f64 A3.sx, .float .f64 A3.sy, .float .f64 A3.ss] := fun j v hj => by
          rw [Nat.zero_add]
          rcases (show j = 0 ∨ j = 1 ∨ j = 2 ∨ j = 3 ∨ j = 4 from by have := (List.getElem?_eq_some_iff.1 hj).1; simp at this; omega) with rfl | rfl | rfl | rfl | rfl <;> (cases hj; assumption)
         have hP28 : W.rangeAt p28 0 [.float .f64 B3.sm, .float .f64 B3.si, .float .f64 B3.sx, .float .f64 B3.sy, .float .f64 B3.ss] := fun j v hj => by
          rw [Nat.zero_add]
          rcases (show j = 0 ∨ j = 1 ∨ j = 2 ∨ j = 3 ∨ j = 4 from by have := (List.getElem?_eq_some_iff.1 hj).1; simp at this; omega) with rfl | rfl | rfl | rfl | rfl <;> (cases hj; assumption)
         clear k_p26_0 k_p26_1 k_p26_2 k_p26_3 k_p26_4 k_p26_5 k_p26_6 k_p26_7 k_p26_8 k_p26_9 k_p26_10 k_p26_11 k_p26_12 k_p26_13 k_p27_0 k_p27_1 k_p27_2 k_p27_3 k_p27_4 k_p28_0 k_p28_1 k_p28_2 k_p28_3 k_p28_4
         have hbn := hb
         have hS9 : Sts W gs 0 sn S := hS7.bel hb
         have d0 := keep hb c0
         have d1 := keep hb c1
         have hthS9 := bel_there hthS7 hb
         have hthR9 := bel_there hthR7 hb
         have hRW9 : Rws W gr 0 rn (setF Q1 k T) := hRW7.bel hb
         have hRk30 := rng_bel hRk9 hb
         have hgs9 : gs < W.heap.size := sts_lt hS9 hAn
         have cR9 := d0
         clear c0 c1 hb
         repeat (first | go_values | go_skip | go_guarded | go_step | go_upon | go_back | dsimp only)
         refine wp_region_knot 9 rfl (fun i v => match i with | 0 => v = .slice (some ⟨gs, 0, none⟩) sn sc1 | 1 => v = .slice (some ⟨gr, 0, none⟩) rn rc1 | 2 => v = .int .i64 (k : Int) | 3 => v = .pointer (some ⟨gr, k * 14, none⟩) | 4 => v = .pointer (some ⟨gr, k * 14, none⟩) | 5 => v = .int .i64 (Q1 k).ra | 6 => v = .agg #[.float .f64 A3.sm, .float .f64 A3.si, .float .f64 A3.sx, .float .f64 A3.sy, .float .f64 A3.ss] | 7 => v = .pointer (some ⟨gs, (Q1 k).ra.toNat * 5, none⟩) | _ => False) (fun i => match i with | 5 => true | 6 => true | _ => false) (fun i => match i with | 8 => some (gs, (Q1 k).ra.toNat * 5, 6) | _ => none) (fun i => match i with | 8 => 5 | _ => 0) [gs] 4 ?A_w30c (by kernel_rfl) (by kernel_rfl) ?hA_w30c ?hpre_w30c ?hdep_w30c ?hne_w30c ?hq_w30c ?hp_w30c ?hst_w30c ?ht_w30c
         case hA_w30c =>
          intro s
          simp only [putL, dstO, Act.put, List.getElem?_toArray, List.getElem?_cons_zero, List.getElem?_cons_succ, Option.bind_some, List.setIfInBounds_toArray, List.set_cons_zero, List.set_cons_succ, if_true]
          all_goals exact rfl
         case hpre_w30c =>
          intro i j b o d hi hr hso
          have hj : j = 8 := by
           split at hso
           all_goals first | omega | (cases hso; done)
          rcases (show i = 0 ∨ i = 1 ∨ i = 2 ∨ i = 3 ∨ i = 4 ∨ i = 5 ∨ i = 6 ∨ i = 7 ∨ i = 8 by omega) with rfl | rfl | rfl | rfl | rfl | rfl | rfl | rfl | rfl
          all_goals first
           | (cases hr; done)
           | (rcases hj with rfl <;> (show rch _ _ _ _ = true) <;> kernel_rfl)
         case hdep_w30c =>
          intro i b o d hso
          split at hso
          all_goals first | (cases hso; done) | (cases hso; exact ⟨by decide, rfl, by simp, by decide, rfl, by kernel_rfl⟩)
         case hne_w30c =>
          intro i j b o d o' d' hij h1 h2
          split at h1
          all_goals (try (cases h1; done))
          all_goals split at h2
          all_goals (try (cases h2; done))
          all_goals (cases h1; cases h2; first | (exact absurd rfl hij) | (exact absurd rfl hne9) | (exact absurd rfl hne9.symm) | (simp only []; omega) | omega)
         case hq_w30c =>
          intro i o hi ho hso hrd s hs W hb K hK
          have uc := keep hb cR9
          rcases (show i = 0 ∨ i = 1 ∨ i = 2 ∨ i = 3 ∨ i = 4 ∨ i = 5 ∨ i = 6 ∨ i = 7 ∨ i = 8 by omega) with rfl | rfl | rfl | rfl | rfl | rfl | rfl | rfl | rfl
          ·cases hrd
          ·cases hrd
          ·cases hrd
          ·cases hrd
          ·cases hrd
          ·cases ho
           have e4 : s 4 = _ := hs 4 (by decide) rfl (by kernel_rfl)
           simp only [e4] at hK ⊢
           simp only [Act.put, List.setIfInBounds_toArray, List.set_cons_zero, List.set_cons_succ] at hK
           clear hs
           go_simp
           all_goals first | with_reducible exact hK.out _ _ rfl (bl_refl _) | exact hK.out _ _ rfl (bl_refl _)
          ·cases ho
           simp only [Act.put, List.setIfInBounds_toArray, List.set_cons_zero, List.set_cons_succ] at hK
           clear hs
           refine wp_load_mid (P := Try.prog) 45 _ rfl _ _ rfl [.float .f64 A3.sm, .float .f64 A3.si, .float .f64 A3.sx, .float .f64 A3.sy, .float .f64 A3.ss] _ (rng_bel hP27 hb) Try.underlying45 rfl (by kernel_rfl) ?_; exact hK.out _ _ rfl (bl_refl _)
          ·cases hrd
          ·cases hso
         case hp_w30c =>
          intro i o hi ho hso hrd s hs W K hK
          rcases (show i = 0 ∨ i = 1 ∨ i = 2 ∨ i = 3 ∨ i = 4 ∨ i = 5 ∨ i = 6 ∨ i = 7 ∨ i = 8 by omega) with rfl | rfl | rfl | rfl | rfl | rfl | rfl | rfl | rfl
          rotate_left 3
          cases ho
          have e1 : s 1 = _ := hs 1 (by decide) rfl (by kernel_rfl)
          have e2 : s 2 = _ := hs 2 (by decide) rfl (by kernel_rfl)
          simp only [e1, e2] at hK ⊢
          rotate_left 1
          cases ho
          have e3 : s 3 = _ := hs 3 (by decide) rfl (by kernel_rfl)
          simp only [e3] at hK ⊢
          rotate_left 1
          ·cases hrd
          ·cases hrd
          cases ho
          have e0 : s 0 = _ := hs 0 (by decide) rfl (by kernel_rfl)
          have e5 : s 5 = _ := hs 5 (by decide) rfl (by kernel_rfl)
          simp only [e0, e5] at hK ⊢
          rotate_left 1
          ·cases hso
          all_goals
           try cases ho
           simp only [Act.put, List.setIfInBounds_toArray, List.set_cons_zero, List.set_cons_succ] at hK
           clear hs
           go_simp
           all_goals first | with_reducible exact hK.out _ rfl | exact hK.out _ rfl
         case hst_w30c =>
          intro i o b q d hi ho hso s hs W hb K hK
          rcases (show i = 0 ∨ i = 1 ∨ i = 2 ∨ i = 3 ∨ i = 4 ∨ i = 5 ∨ i = 6 ∨ i = 7 ∨ i = 8 by omega) with rfl | rfl | rfl | rfl | rfl | rfl | rfl | rfl | rfl
          ·cases hso
          ·cases hso
          ·cases hso
          ·cases hso
          ·cases hso
          ·cases hso
          ·cases hso
          ·cases hso
          ·cases ho
           cases hso
           have e6 : s 6 = _ := hs 6 (by decide) rfl (by kernel_rfl)
           have e7 : s 7 = _ := hs 7 (by decide) rfl (by kernel_rfl)
           simp only [e6, e7] at hK ⊢
           have hth := there_sub (hb.thr _ _ _ hthS9) (show (Q1 k).ra.toNat * 5 + 5 ≤ sn * 5 by omega)
           refine wp_store_mid (P := Try.prog) 45 _ _ rfl (gs) ((Q1 k).ra.toNat * 5) #[.float .f64 A3.sm, .float .f64 A3.si, .float .f64 A3.sx, .float .f64 A3.sy, .float .f64 A3.ss] rfl rfl hth (by kernel_rfl) (by kernel_rfl) ?_
           exact hK.out [.float .f64 A3.sm, .float .f64 A3.si, .float .f64 A3.sx, .float .f64 A3.sy, .float .f64 A3.ss] (.inl rfl) rfl hth
         case ht_w30c =>
          intro s hs W hfx hout hin
          have e0 : s 0 = _ := hs 0 (by decide) rfl
          have e1 : s 1 = _ := hs 1 (by decide) rfl
          have e2 : s 2 = _ := hs 2 (by decide) rfl
          have e3 : s 3 = _ := hs 3 (by decide) rfl
          have e4 : s 4 = _ := hs 4 (by decide) rfl
          have e5 : s 5 = _ := hs 5 (by decide) rfl
          have e6 : s 6 = _ := hs 6 (by decide) rfl
          have e7 : s 7 = _ := hs 7 (by decide) rfl
          simp only [e0, e1, e2, e3, e4, e5, e6, e7]
          obtain ⟨cs1, g1, g2, g3⟩ := hin 8 _ _ _ rfl
          rw [e6] at g1
          have i1 := cellsV_agg (l := [.float .f64 A3.sm, .float .f64 A3.si, .float .f64 A3.sx, .float .f64 A3.sy, .float .f64 A3.ss]) g1 (by rw [g2]; decide)
          subst i1
          have hout9 : ∀ q, ¬ ((Q1 k).ra.toNat * 5 ≤ q ∧ q < (Q1 k).ra.toNat * 5 + 5) → W.cell? ⟨gs, q, none⟩ = _ := fun q n1 => hout gs q hgs9 (by rintro ⟨j, o, d, h1, h2, h3, h4⟩; dsimp only at h1 h4; split at h1 <;> cases h1; exact n1 ⟨h3, h4⟩)
          clear hs hin g1 g2 hout e0 e1 e2 e3 e4 e5 e6 e7
          have hS30 := sts_one (a' := A3) hS9 g3 hout9
          have hthS30 := hfx.thr _ _ _ hthS9
          have hthR30 := hfx.thr _ _ _ hthR9
          have hP28b := hfx.rng (by simp only [List.mem_singleton]; omega) hP28
          have hP26b := hfx.rng (by simp only [List.mem_singleton]; omega) hP26
          have hRW30 : Rws W gr 0 rn (setF Q1 k T) := fun i hi => hfx.rng (by simp only [List.mem_singleton]; exact p9) (hRW9 i hi)
          have hRW30k := hfx.rng (by simp only [List.mem_singleton]; exact p9) hRk30
          have hfx30 := hfx
          have cR31 := hfx.cell (by simp only [List.mem_singleton]; omega) d1
          have hgs31 : gs < W.heap.size := sts_lt hS30 hAn
          clear hout9 g3 hfx hthS9 hgs9 cR9
          have hthS9 := hthS30
          have hgs9 := hgs31
          have cR9 := cR31
          repeat (first | go_values | go_skip | go_guarded | go_step | go_upon | go_back | dsimp only)
          refine wp_region_knot 9 rfl (fun i v => match i with | 0 => v = .slice (some ⟨gs, 0, none⟩) sn sc1 | 1 => v = .slice (some ⟨gr, 0, none⟩) rn rc1 | 2 => v = .int .i64 (k : Int) | 3 => v = .pointer (some ⟨gr, k * 14, none⟩) | 4 => v = .pointer (some ⟨gr, k * 14 + 1, none⟩) | 5 => v = .int .i64 (Q1 k).rb | 6 => v = .agg #[.float .f64 B3.sm, .float .f64 B3.si, .float .f64 B3.sx, .float .f64 B3.sy, .float .f64 B3.ss] | 7 => v = .pointer (some ⟨gs, (Q1 k).rb.toNat * 5, none⟩) | _ => False) (fun i => match i with | 5 => true | 6 => true | _ => false) (fun i => match i with | 8 => some (gs, (Q1 k).rb.toNat * 5, 6) | _ => none) (fun i => match i with | 8 => 5 | _ => 0) [gs] 4 ?A_w31c (by kernel_rfl) (by kernel_rfl) ?hA_w31c ?hpre_w31c ?hdep_w31c ?hne_w31c ?hq_w31c ?hp_w31c ?hst_w31c ?ht_w31c
          case hA_w31c =>
           intro s
           simp only [putL, dstO, Act.put, List.getElem?_toArray, List.getElem?_cons_zero, List.getElem?_cons_succ, Option.bind_some, List.setIfInBounds_toArray, List.set_cons_zero, List.set_cons_succ, if_true]
           all_goals exact rfl
          case hpre_w31c =>
           intro i j b o d hi hr hso
           have hj : j = 8 := by
            split at hso
            all_goals first | omega | (cases hso; done)
           rcases (show i = 0 ∨ i = 1 ∨ i = 2 ∨ i = 3 ∨ i = 4 ∨ i = 5 ∨ i = 6 ∨ i = 7 ∨ i = 8 by omega) with rfl | rfl | rfl | rfl | rfl | rfl | rfl | rfl | rfl
           all_goals first
            | (cases hr; done)
            | (rcases hj with rfl <;> (show rch _ _ _ _ = true) <;> kernel_rfl)
          case hdep_w31c =>
           intro i b o d hso
           split at hso
           all_goals first | (cases hso; done) | (cases hso; exact ⟨by decide, rfl, by simp, by decide, rfl, by kernel_rfl⟩)
          case hne_w31c =>
           intro i j b o d o' d' hij h1 h2
           split at h1
           all_goals (try (cases h1; done))
           all_goals split at h2
           all_goals (try (cases h2; done))
           all_goals (cases h1; cases h2; first | (exact absurd rfl hij) | (exact absurd rfl hne9) | (exact absurd rfl hne9.symm) | (simp only []; omega) | omega)
          case hq_w31c =>
           intro i o hi ho hso hrd s hs W hb K hK
           have uc := keep hb cR9
           rcases (show i = 0 ∨ i = 1 ∨ i = 2 ∨ i = 3 ∨ i = 4 ∨ i = 5 ∨ i = 6 ∨ i = 7 ∨ i = 8 by omega) with rfl | rfl | rfl | rfl | rfl | rfl | rfl | rfl | rfl
           ·cases hrd
           ·cases hrd
           ·cases hrd
           ·cases hrd
           ·cases hrd
           ·cases ho
            have e4 : s 4 = _ := hs 4 (by decide) rfl (by kernel_rfl)
            simp only [e4] at hK ⊢
            simp only [Act.put, List.setIfInBounds_toArray, List.set_cons_zero, List.set_cons_succ] at hK
            clear hs
            go_simp
            all_goals first | with_reducible exact hK.out _ _ rfl (bl_refl _) | exact hK.out _ _ rfl (bl_refl _)
           ·cases ho
            simp only [Act.put, List.setIfInBounds_toArray, List.set_cons_zero, List.set_cons_succ] at hK
            clear hs
            refine wp_load_mid (P := Try.prog) 45 _ rfl _ _ rfl [.float .f64 B3.sm, .float .f64 B3.si, .float .f64 B3.sx, .float .f64 B3.sy, .float .f64 B3.ss] _ (rng_bel hP28b hb) Try.underlying45 rfl (by kernel_rfl) ?_; exact hK.out _ _ rfl (bl_refl _)
           ·cases hrd
           ·cases hso
          case hp_w31c =>
           intro i o hi ho hso hrd s hs W K hK
           rcases (show i = 0 ∨ i = 1 ∨ i = 2 ∨ i = 3 ∨ i = 4 ∨ i = 5 ∨ i = 6 ∨ i = 7 ∨ i = 8 by omega) with rfl | rfl | rfl | rfl | rfl | rfl | rfl | rfl | rfl
           rotate_left 3
           cases ho
           have e1 : s 1 = _ := hs 1 (by decide) rfl (by kernel_rfl)
           have e2 : s 2 = _ := hs 2 (by decide) rfl (by kernel_rfl)
           simp only [e1, e2] at hK ⊢
           rotate_left 1
           cases ho
           have e3 : s 3 = _ := hs 3 (by decide) rfl (by kernel_rfl)
           simp only [e3] at hK ⊢
           rotate_left 1
           ·cases hrd
           ·cases hrd
           cases ho
           have e0 : s 0 = _ := hs 0 (by decide) rfl (by kernel_rfl)
           have e5 : s 5 = _ := hs 5 (by decide) rfl (by kernel_rfl)
           simp only [e0, e5] at hK ⊢
           rotate_left 1
           ·cases hso
           all_goals
            try cases ho
            simp only [Act.put, List.setIfInBounds_toArray, List.set_cons_zero, List.set_cons_succ] at hK
            clear hs
            go_simp
            all_goals first | with_reducible exact hK.out _ rfl | exact hK.out _ rfl
          case hst_w31c =>
           intro i o b q d hi ho hso s hs W hb K hK
           rcases (show i = 0 ∨ i = 1 ∨ i = 2 ∨ i = 3 ∨ i = 4 ∨ i = 5 ∨ i = 6 ∨ i = 7 ∨ i = 8 by omega) with rfl | rfl | rfl | rfl | rfl | rfl | rfl | rfl | rfl
           ·cases hso
           ·cases hso
           ·cases hso
           ·cases hso
           ·cases hso
           ·cases hso
           ·cases hso
           ·cases hso
           ·cases ho
            cases hso
            have e6 : s 6 = _ := hs 6 (by decide) rfl (by kernel_rfl)
            have e7 : s 7 = _ := hs 7 (by decide) rfl (by kernel_rfl)
            simp only [e6, e7] at hK ⊢
            have hth := there_sub (hb.thr _ _ _ hthS9) (show (Q1 k).rb.toNat * 5 + 5 ≤ sn * 5 by omega)
            refine wp_store_mid (P := Try.prog) 45 _ _ rfl (gs) ((Q1 k).rb.toNat * 5) #[.float .f64 B3.sm, .float .f64 B3.si, .float .f64 B3.sx, .float .f64 B3.sy, .float .f64 B3.ss] rfl rfl hth (by kernel_rfl) (by kernel_rfl) ?_
            exact hK.out [.float .f64 B3.sm, .float .f64 B3.si, .float .f64 B3.sx, .float .f64 B3.sy, .float .f64 B3.ss] (.inl rfl) rfl hth
          case ht_w31c =>
           intro s hs W hfx hout hin
           have e0 : s 0 = _ := hs 0 (by decide) rfl
           have e1 : s 1 = _ := hs 1 (by decide) rfl
           have e2 : s 2 = _ := hs 2 (by decide) rfl
           have e3 : s 3 = _ := hs 3 (by decide) rfl
           have e4 : s 4 = _ := hs 4 (by decide) rfl
           have e5 : s 5 = _ := hs 5 (by decide) rfl
           have e6 : s 6 = _ := hs 6 (by decide) rfl
           have e7 : s 7 = _ := hs 7 (by decide) rfl
           simp only [e0, e1, e2, e3, e4, e5, e6, e7]
           obtain ⟨cs1, g1, g2, g3⟩ := hin 8 _ _ _ rfl
           rw [e6] at g1
           have i1 := cellsV_agg (l := [.float .f64 B3.sm, .float .f64 B3.si, .float .f64 B3.sx, .float .f64 B3.sy, .float .f64 B3.ss]) g1 (by rw [g2]; decide)
           subst i1
           have hout9 : ∀ q, ¬ ((Q1 k).rb.toNat * 5 ≤ q ∧ q < (Q1 k).rb.toNat * 5 + 5) → W.cell? ⟨gs, q, none⟩ = _ := fun q n1 => hout gs q hgs9 (by rintro ⟨j, o, d, h1, h2, h3, h4⟩; dsimp only at h1 h4; split at h1 <;> cases h1; exact n1 ⟨h3, h4⟩)
           clear hs hin g1 g2 hout e0 e1 e2 e3 e4 e5 e6 e7
           have hS31 := sts_one (a' := B3) hS30 g3 hout9
           have hRk31 := hfx.rng (by simp only [List.mem_singleton]; exact p9) hRW30k
           have hthR31 := hfx.thr _ _ _ hthR30
           have hP32 := hfx.rng (by simp only [List.mem_singleton]; omega) hP26b
           have hX32 : W.there gr (k * 14) 14 := there_sub hthR31 (show k * 14 + 14 ≤ rn * 14 by omega)
           have hS31t := hfx.thr _ _ _ hthS9
           have hRW31 : Rws W gr 0 rn (setF Q1 k T) := fun i hi => hfx.rng (by simp only [List.mem_singleton]; exact p9) (hRW30 i hi)
           repeat (first | ((with_reducible show Oper.wp _ ⟨_, Op.load 43 _, _, _, _, _⟩ _ _ _ _); refine wp_load_mid (P := Try.prog) 43 _ rfl _ _ rfl [.int .i64 QO.ra, .int .i64 QO.rb, .float .f64 QO.r2, .float .f64 QO.r3, .float .f64 QO.r4, .float .f64 QO.r5, .float .f64 QO.r6, .float .f64 QO.r7, .float .f64 QO.r8, .float .f64 QO.r9, .float .f64 QO.r10, .float .f64 QO.r11, .int .i64 QO.ro, .float .f64 QO.r13] _ hP32 Try.underlying43 rfl (by kernel_rfl) ?_; simp only [go_sem]) | ((with_reducible show Oper.wp _ ⟨_, Op.store 43 _ _, _, _, _, _⟩ _ _ _ _); refine wp_store_mid (P := Try.prog) 43 _ _ rfl (gr) (k * 14) #[.int .i64 QO.ra, .int .i64 QO.rb, .float .f64 QO.r2, .float .f64 QO.r3, .float .f64 QO.r4, .float .f64 QO.r5, .float .f64 QO.r6, .float .f64 QO.r7, .float .f64 QO.r8, .float .f64 QO.r9, .float .f64 QO.r10, .float .f64 QO.r11, .int .i64 QO.ro, .float .f64 QO.r13] rfl rfl hX32 (by kernel_rfl) (by kernel_rfl) ?_; simp only [go_sem]) | go_values | go_skip | go_guarded | go_step | go_upon | go_back | dsimp only)
           have F32 : Fx [gr, gs] W (W.setCells gr (k * 14) [.int .i64 QO.ra, .int .i64 QO.rb, .float .f64 QO.r2, .float .f64 QO.r3, .float .f64 QO.r4, .float .f64 QO.r5, .float .f64 QO.r6, .float .f64 QO.r7, .float .f64 QO.r8, .float .f64 QO.r9, .float .f64 QO.r10, .float .f64 QO.r11, .int .i64 QO.ro, .float .f64 QO.r13]) := (Fx.refl _ _).sets (by simp) _ _
           have hR32 := rws_one (T := QO) hRW31 (World.rangeAt_setCells_same W gr (k * 14) [.int .i64 QO.ra, .int .i64 QO.rb, .float .f64 QO.r2, .float .f64 QO.r3, .float .f64 QO.r4, .float .f64 QO.r5, .float .f64 QO.r6, .float .f64 QO.r7, .float .f64 QO.r8, .float .f64 QO.r9, .float .f64 QO.r10, .float .f64 QO.r11, .int .i64 QO.ro, .float .f64 QO.r13] hX32) (fun q n1 => sets_out gr [.int .i64 QO.ra, .int .i64 QO.rb, .float .f64 QO.r2, .float .f64 QO.r3, .float .f64 QO.r4, .float .f64 QO.r5, .float .f64 QO.r6, .float .f64 QO.r7, .float .f64 QO.r8, .float .f64 QO.r9, .float .f64 QO.r10, .float .f64 QO.r11, .int .i64 QO.ro, .float .f64 QO.r13] (k * 14) W q (by simp only [List.length_cons, List.length_nil]; omega))
           rw [setF_two] at hR32
           go_roundw
           case measure => simp [intOf]; omega
           case rel =>
            refine ⟨k + 1, by omega, by go_num, (((hFF.trans (Fx.of_bel hbn)).trans (hfx30.mono2 gr)).trans (hfx.mono2 gr)).trans F32, ?_, ?_⟩
            ·rw [en, eQO]; exact ⟨F32.thr _ _ _ hthR31, hR32⟩
            ·rw [en, eXO, eYO]; exact StM.away ⟨hS31t, _, hS31, rel_two hRel q3 q4⟩ ((Fx.refl [gr] W).sets (by simp) (k * 14) [.int .i64 QO.ra, .int .i64 QO.rb, .float .f64 QO.r2, .float .f64 QO.r3, .float .f64 QO.r4, .float .f64 QO.r5, .float .f64 QO.r6, .float .f64 QO.r7, .float .f64 QO.r8, .float .f64 QO.r9, .float .f64 QO.r10, .float .f64 QO.r11, .int .i64 QO.ro, .float .f64 QO.r13]) (by simp only [List.mem_singleton]; omega)

      ·have hkn : rn = k := by omega
       subst hkn
       repeat (first | go_values | go_skip | go_guarded | go_step | go_upon | go_back | dsimp only)
       exact ⟨⟨j + 1, by omega, by go_num, hF, by rw [eN]; exact hRM, by rw [eN]; exact hSM⟩, by simp [intOf]; omega⟩
    ·have hjn : n = j := by omega
     subst hjn
     repeat (first | go_values | go_skip | go_guarded | go_step | go_upon | go_back | dsimp only)
     refine bodyPost_ret (v := .tuple #[.slice rs1 rn rc1, .slice ss1 sn sc1, .int .i64 0]) (by kernel_rfl) rfl ?_
     exact ⟨_, _, ⟨gr, rc1, rs1, gs, sc1, ss1, rfl, rfl, p1, p2, p3, p4, p5, p6, by omega, by omega, p9, hRj, hSj⟩, rfl, hFj.bel B2 (fun k hk => by simp only [List.mem_cons, List.not_mem_nil, or_false] at hk; rcases hk with rfl | rfl <;> omega)⟩


end Go.Proofs.Ytfohggiehbplkaa
