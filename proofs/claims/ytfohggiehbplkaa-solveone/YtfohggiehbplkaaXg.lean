/-
  What each function of package poly answers, and what the reference of its chapter answers: one contract a function, for every float: the answer stands in the relation of its formula to what was given; of the memory that was there nothing has turned.
-/
import Derived.Test.YtfohggiehbplkaaVec
import Derived.Test.YtfohggiehbplkaaXf
import Derived.Below
import Derived.OwnWalk
import Derived.Laws.AppendOwn
import Derived.Lib.SliceRun
import Derived.Laws.MakeOwn
import Derived.WalkMore
import Derived.WalkKit
import Derived.WalkLawsBesides
import Derived.WalkSpells
import Derived.ProofKit
import Derived.OpenShut
import Derived.Deep.RegionHeld3
namespace Go.Proofs.Ytfohggiehbplkaa
open Go.ChangeShapes Go.WideShapes Go.ChangeAt Go.RowKit
set_option linter.unusedVariables false
set_option linter.unusedSimpArgs false


theorem cellsV_one {x : Nat} {cs : List Value} (h : cellsV (.float .f64 x) cs) (hn : cs.length = 1) : cs = [.float .f64 x] := by
 rcases h with h | h
 ·cases h
 ·exact h
theorem setF_two {α : Type} (f : Nat → α) (i : Nat) (x y : α) : setF (setF f i x) i y = setF f i y := by
 funext j
 unfold setF
 split <;> rfl
theorem rnd_succ {Q Q1 : Nat → RD} {M M1 : Nat → SD} {k : Nat} (h : rndM Q M k = (Q1, M1)) : rndM Q M (k + 1) = (setF Q1 k (onR (toR Q1 k) (M1 (Q1 k).ra.toNat) (M1 (Q1 k).rb.toNat)), setF (setF M1 (Q1 k).ra.toNat (onA (toR Q1 k) (M1 (Q1 k).ra.toNat) (M1 (Q1 k).rb.toNat))) (Q1 k).rb.toNat (onB (toR Q1 k) (M1 (Q1 k).ra.toNat) (M1 (Q1 k).rb.toNat))) := by
 simp only [rndM, h]
theorem onR_mv {T : RD} {a b : SD} (h : (mvB a || mvB b) = true) : onR T a b = onQ T a b := by unfold onR; rw [h]; rfl
theorem onR_no {T : RD} {a b : SD} (h : (mvB a || mvB b) = false) : onR T a b = T := by unfold onR; rw [h]; rfl
theorem onAB_mv {T : RD} {a b : SD} (h : (mvB a || mvB b) = true) : onA T a b = onX T a b ∧ onB T a b = onY T a b := by unfold onA onB; rw [h]; exact ⟨rfl, rfl⟩
theorem onAB_no {T : RD} {a b : SD} (h : (mvB a || mvB b) = false) : onA T a b = a ∧ onB T a b = b := by unfold onA onB; rw [h]; exact ⟨rfl, rfl⟩
set_option maxRecDepth 100000 in
set_option maxHeartbeats 20000000 in
theorem round_w (gr rn rc_ : Nat) (rs : Option Addr) (Q : Nat → RD) (gs sn sc_ : Nat) (ss : Option Addr) (M : Nat → SD) (w : World) (hrs : rn = 0 ∨ rs = some ⟨gr, 0, none⟩) (hrc : rn ≤ rc_) (hrm : rc_ ≤ maxLen) (hR0 : RwM w gr rn Q) (or_ : ∀ i, i < rn → rok (Q i)) (hss : sn = 0 ∨ ss = some ⟨gs, 0, none⟩) (hsc : sn ≤ sc_) (hsm : sc_ ≤ maxLen) (hS0 : StM w gs sn M) (hne9 : gr ≠ gs) (hst : ∀ i, i < sn → stB (M i) = true) (hch : ∀ i, i < rn → chB (Q i) rn sn = true) : Calls Try.prog 74 #[.agg #[.slice rs rn rc_, .slice ss sn sc_]] w fun e w' => RwM w' gr rn (rndM Q M rn).1 ∧ StM w' gs sn (rndM Q M rn).2 ∧ Fx [gr, gs] w w' ∧ e = .returned (.tuple #[]) := by
 unfold maxLen at hrm hsm
 have B0 : Bel w (w.alloc (.cells #[.slice rs rn rc_, .slice ss sn sc_] 116)) := bl_alloc (bl_refl w) _ _
 have hT : (w.alloc (.cells #[.slice rs rn rc_, .slice ss sn sc_] 116)).rangeAt w.heap.size 0 [.slice rs rn rc_, .slice ss sn sc_] := rng_new w [.slice rs rn rc_, .slice ss sn sc_] 116
 go_enter Try.func74, Try.ntmps74
 have k0 : (w.alloc (.cells #[.slice rs rn rc_, .slice ss sn sc_] 116)).cell? ⟨w.heap.size, 0, none⟩ = some (.slice rs rn rc_) := hT 0 _ rfl
 go_wp2
 go_loopw [9] (fun i wr => ∃ k : Nat, k ≤ rn ∧ i = .int .i64 k ∧ Fx [gr, gs] (w.alloc (.cells #[.slice rs rn rc_, .slice ss sn sc_] 116)) wr ∧ RwM wr gr rn (rndM Q M k).1 ∧ StM wr gs sn (rndM Q M k).2) (fun i _ => rn - (intOf i).toNat)
 case atStart => exact ⟨0, by omega, rfl, Fx.refl _ _, hR0.bel B0, hS0.bel B0⟩
 case round =>
  obtain ⟨k, hk, rfl, hF, hRM, hSM⟩ := hrel
  by_cases hlt : k < rn
  ·have e9 : rs = some ⟨gr, 0, none⟩ := by rcases hrs with h | h; omega; exact h
   subst e9
   have hc := (rnd_ch (M := M) hch k hk).1
   have hs0 := (rnd_ch (M := M) hch k hk).2
   have hok := rnd_ok (M := M) or_ k hk
   obtain ⟨Q1, M1, eP⟩ : ∃ Q1 M1, rndM Q M k = (Q1, M1) := ⟨_, _, rfl⟩
   have en := rnd_succ eP
   rw [eP] at hc hs0 hok hRM hSM
   dsimp only at hc hs0 hok hRM hSM
   clear eP
   obtain ⟨T, eT⟩ : ∃ T, toR Q1 k = T := ⟨_, rfl⟩
   rw [eT] at en
   have hc9 := hc k hlt
   unfold chB at hc9
   simp only [Bool.and_eq_true, decide_eq_true_eq] at hc9
   obtain ⟨hmay, hc1, hc2, hc3⟩ := hc9
   have hA0 : 0 ≤ (Q1 k).ra := by unfold mayB at hmay; simp only [Bool.and_eq_true, decide_eq_true_eq] at hmay; exact hmay.1
   have hB0 : 0 ≤ (Q1 k).rb := by unfold mayB at hmay; simp only [Bool.and_eq_true, decide_eq_true_eq] at hmay; exact hmay.2.1
   have hAB : (Q1 k).ra ≠ (Q1 k).rb := by unfold mayB at hmay; simp only [Bool.and_eq_true, decide_eq_true_eq] at hmay; exact hmay.2.2.1
   have hAn : (Q1 k).ra.toNat < sn := by omega
   have hBn : (Q1 k).rb.toNat < sn := by omega
   have e10 : ss = some ⟨gs, 0, none⟩ := by rcases hss with h | h; omega; exact h
   subst e10
   have hgrw : gr < w.heap.size := rws_lt hR0.at_ hlt
   have hgsw : gs < w.heap.size := by obtain ⟨S0, q1, _⟩ := hS0.at_; exact sts_lt q1 hAn
   have hTn : w.heap.size ∉ [gr, gs] := by simp only [List.mem_cons, List.not_mem_nil, or_false]; omega
   have hTr : wr.rangeAt w.heap.size 0 [.slice (some ⟨gr, 0, none⟩) rn rc_, .slice (some ⟨gs, 0, none⟩) sn sc_] := hF.rng hTn hT
   have t0 : wr.cell? ⟨w.heap.size, 0, none⟩ = some (.slice (some ⟨gr, 0, none⟩) rn rc_) := hTr 0 _ rfl
   have t1 : wr.cell? ⟨w.heap.size, 1, none⟩ = some (.slice (some ⟨gs, 0, none⟩) sn sc_) := hTr 1 _ rfl
   have hkI : (k : Int) < (rn : Int) := by omega
   have hRk0 : wr.rangeAt gr (k * 14) [.int .i64 (Q1 k).ra, .int .i64 (Q1 k).rb, .float .f64 (Q1 k).r2, .float .f64 (Q1 k).r3, .float .f64 (Q1 k).r4, .float .f64 (Q1 k).r5, .float .f64 (Q1 k).r6, .float .f64 (Q1 k).r7, .float .f64 (Q1 k).r8, .float .f64 (Q1 k).r9, .float .f64 (Q1 k).r10, .float .f64 (Q1 k).r11, .int .i64 (Q1 k).ro, .float .f64 (Q1 k).r13] := by have h := hRM.at_ k hlt; rwa [Nat.zero_add] at h
   have c0 : wr.cell? ⟨gr, k * 14, none⟩ = some (.int .i64 (Q1 k).ra) := hRk0 0 _ rfl
   have c1 : wr.cell? ⟨gr, k * 14 + 1, none⟩ = some (.int .i64 (Q1 k).rb) := hRk0 1 _ rfl
   repeat (first | go_step3 | go_values | go_skip | go_guarded | go_step | go_upon | go_back | dsimp only)
   have BN := belBy_some wr
   replace t0 := belBy_cell (W := wr) t0
   replace t1 := belBy_cell (W := wr) t1
   replace c0 := belBy_cell (W := wr) c0
   replace c1 := belBy_cell (W := wr) c1
   refine wp_region_quiet_bel (by kernel_rfl) (by kernel_rfl) ?_
   repeat (go_big_quiet_step (fail))
   refine wpQuiet_nil ?_
   rintro _ ⟨pW, rfl⟩
   obtain ⟨W5, hW5⟩ : ∃ W5, pW.world = W5 := ⟨_, rfl⟩
   have hp5 := pW.h
   rw [hW5] at hp5 ⊢
   clear t0 t1 c0 c1
   obtain ⟨S, hSt0, hRel⟩ := hSM.at_
   have hRW : Rws W5 gr 0 rn Q1 := hRM.at_.bel hp5
   have hSt : Sts W5 gs 0 sn S := hSt0.bel hp5
   have hthR := bel_there hRM.thr hp5
   have hthS := bel_there hSM.thr hp5
   have hT7 := rng_bel hTr hp5
   have hRk := rng_bel hRk0 hp5
   have hgr : gr < W5.heap.size := rws_lt hRW hlt
   have hgs : gs < W5.heap.size := sts_lt hSt hAn
   have hFF5 := hF.trans (Fx.of_bel hp5)
   have hlR : k * 14 + 14 ≤ rn * 14 := by omega
   have hlA : (Q1 k).ra.toNat * 5 + 5 ≤ sn * 5 := by omega
   have hlB : (Q1 k).rb.toNat * 5 + 5 ≤ sn * 5 := by omega
   have oT : rok T := eT ▸ ok_told (hok k hlt)
   have hal : alB T (S ((Q1 k).ra.toNat)) (S ((Q1 k).rb.toNat)) = true := by
    have h1 := ch_told (hc k hlt)
    rw [eT] at h1
    unfold chB at h1
    rw [Bool.and_eq_true] at h1
    unfold alB
    rw [h1.1, (hRel _ hAn).st, (hRel _ hBn).st, hs0, hs0, hst _ hAn, hst _ hBn]; rfl
   obtain ⟨QO, eQO⟩ : ∃ q, onQ T (M1 ((Q1 k).ra.toNat)) (M1 ((Q1 k).rb.toNat)) = q := ⟨_, rfl⟩
   obtain ⟨XO, eXO⟩ : ∃ q, onX T (M1 ((Q1 k).ra.toNat)) (M1 ((Q1 k).rb.toNat)) = q := ⟨_, rfl⟩
   obtain ⟨YO, eYO⟩ : ∃ q, onY T (M1 ((Q1 k).ra.toNat)) (M1 ((Q1 k).rb.toNat)) = q := ⟨_, rfl⟩
   have hone := fun W => one_m T (S ((Q1 k).ra.toNat)) (S ((Q1 k).rb.toNat)) (M1 ((Q1 k).ra.toNat)) (M1 ((Q1 k).rb.toNat)) W oT (hRel _ hAn) (hRel _ hBn) hal
   rw [eQO, eXO, eYO] at hone
   have c12 : W5.cell? ⟨gr, k * 14 + 12, none⟩ = some (.int .i64 (Q1 k).ro) := hRk 12 _ rfl
   by_cases ho : 0 ≤ (Q1 k).ro
   ·obtain ⟨EN, eEN⟩ : ∃ q, enF (Q1 k) (Q1 (Q1 k).ro.toNat).r11 = q := ⟨_, rfl⟩
    have eT1 : T = { Q1 k with r9 := oF .sub 0 EN, r10 := EN } := by rw [← eT, ← eEN]; unfold toR; rw [if_pos ho]
    have hPc : W5.cell? ⟨gr, (Q1 k).ro.toNat * 14 + 11, none⟩ = some (.float .f64 (Q1 (Q1 k).ro.toNat).r11) := by have h := hRW (Q1 k).ro.toNat (by omega) 11 _ rfl; rwa [Nat.zero_add] at h
    have okP := hok (Q1 k).ro.toNat (by omega)
    have okk := hok k hlt
    have hends := fun (W : World) h => ends_w (Q1 k) gr rn rc_ (Q1 (Q1 k).ro.toNat).r11 (.slice (some ⟨gs, 0, none⟩) sn sc_) W okk.2.2.2.2.2.2.2.2.2.2 okP.2.2.2.2.2.2.2.2.2.1 hrc (by unfold maxLen; omega) ho hc3 h
    rw [eEN] at hends
    repeat (first | go_step3 | go_values | go_skip | go_guarded | go_step | go_upon | go_back | dsimp only)
    refine wp_region_knot 16 rfl (fun i v => match i with | 0 => v = .pointer (some ⟨gr, k * 14, none⟩) | 1 => v = .pointer (some ⟨gr, k * 14, none⟩) | 2 => v = .agg #[.slice (some ⟨gr, 0, none⟩) rn rc_, .slice (some ⟨gs, 0, none⟩) sn sc_] | 3 => v = .pointer (some ⟨gr, k * 14, none⟩) | 4 => v = .pointer (some ⟨gr, k * 14, none⟩) | 5 => v = .agg #[.int .i64 (Q1 k).ra, .int .i64 (Q1 k).rb, .float .f64 (Q1 k).r2, .float .f64 (Q1 k).r3, .float .f64 (Q1 k).r4, .float .f64 (Q1 k).r5, .float .f64 (Q1 k).r6, .float .f64 (Q1 k).r7, .float .f64 (Q1 k).r8, .float .f64 (Q1 k).r9, .float .f64 (Q1 k).r10, .float .f64 (Q1 k).r11, .int .i64 (Q1 k).ro, .float .f64 (Q1 k).r13] | 6 => v = .tuple #[.float .f64 (oF .sub 0 EN), .float .f64 EN] | 7 => v = .tuple #[.float .f64 (oF .sub 0 EN), .float .f64 EN] | 8 => v = .float .f64 (oF .sub 0 EN) | 9 => v = .float .f64 EN | 10 => v = .pointer (some ⟨gr, k * 14, none⟩) | 11 => v = .pointer (some ⟨gr, k * 14 + 9, none⟩) | 13 => v = .pointer (some ⟨gr, k * 14, none⟩) | 14 => v = .pointer (some ⟨gr, k * 14 + 10, none⟩) | _ => False) (fun i => match i with | 2 => true | 5 => true | 6 => true | _ => false) (fun i => match i with | 12 => some (gr, k * 14 + 9, 8) | 15 => some (gr, k * 14 + 10, 9) | _ => none) (fun i => match i with | 12 => 1 | 15 => 1 | _ => 0) [gr, gs] 4 ?A_k7 (by kernel_rfl) (by kernel_rfl) ?hA_k7 ?hpre_k7 ?hdep_k7 ?hne_k7 ?hq_k7 ?hp_k7 ?hst_k7 ?ht_k7
    case hA_k7 =>
     intro s
     simp only [putL, dstO, Act.put, List.getElem?_toArray, List.getElem?_cons_zero, List.getElem?_cons_succ, Option.bind_some, List.setIfInBounds_toArray, List.set_cons_zero, List.set_cons_succ, if_true]
     all_goals exact rfl
    case hpre_k7 =>
     intro i j b o d hi hr hso
     have hj : j = 12 ∨ j = 15 := by
      split at hso
      all_goals first | omega | (cases hso; done)
     rcases (show i = 0 ∨ i = 1 ∨ i = 2 ∨ i = 3 ∨ i = 4 ∨ i = 5 ∨ i = 6 ∨ i = 7 ∨ i = 8 ∨ i = 9 ∨ i = 10 ∨ i = 11 ∨ i = 12 ∨ i = 13 ∨ i = 14 ∨ i = 15 by omega) with rfl | rfl | rfl | rfl | rfl | rfl | rfl | rfl | rfl | rfl | rfl | rfl | rfl | rfl | rfl | rfl
     all_goals first
      | (cases hr; done)
      | (rcases hj with rfl | rfl <;> (show rch _ _ _ _ = true) <;> kernel_rfl)
    case hdep_k7 =>
     intro i b o d hso
     split at hso
     all_goals first | (cases hso; done) | (cases hso; exact ⟨by decide, rfl, by simp, by decide, rfl, by kernel_rfl⟩)
    case hne_k7 =>
     intro i j b o d o' d' hij h1 h2
     split at h1
     all_goals (try (cases h1; done))
     all_goals split at h2
     all_goals (try (cases h2; done))
     all_goals (cases h1; cases h2; first | (exact absurd rfl hij) | (exact absurd rfl hne9) | (exact absurd rfl hne9.symm) | (simp only []; omega) | omega)
    case hq_k7 =>
     intro i o hi ho hso hrd s hs W hb K hK
     rcases (show i = 0 ∨ i = 1 ∨ i = 2 ∨ i = 3 ∨ i = 4 ∨ i = 5 ∨ i = 6 ∨ i = 7 ∨ i = 8 ∨ i = 9 ∨ i = 10 ∨ i = 11 ∨ i = 12 ∨ i = 13 ∨ i = 14 ∨ i = 15 by omega) with rfl | rfl | rfl | rfl | rfl | rfl | rfl | rfl | rfl | rfl | rfl | rfl | rfl | rfl | rfl | rfl
     ·cases hrd
     ·cases hrd
     ·cases ho
      simp only [Act.put, List.setIfInBounds_toArray, List.set_cons_zero, List.set_cons_succ] at hK
      clear hs
      refine wp_load_mid (P := Try.prog) 116 _ rfl _ _ rfl [.slice (some ⟨gr, 0, none⟩) rn rc_, .slice (some ⟨gs, 0, none⟩) sn sc_] _ (rng_bel hT7 hb) Try.underlying116 rfl (by kernel_rfl) ?_; exact hK.out _ _ rfl (bl_refl _)
     ·cases hrd
     ·cases hrd
     ·cases ho
      have e4 : s 4 = _ := hs 4 (by decide) rfl (by kernel_rfl)
      simp only [e4] at hK ⊢
      simp only [Act.put, List.setIfInBounds_toArray, List.set_cons_zero, List.set_cons_succ] at hK
      clear hs
      refine wp_load_mid (P := Try.prog) 43 _ rfl _ _ rfl [.int .i64 (Q1 k).ra, .int .i64 (Q1 k).rb, .float .f64 (Q1 k).r2, .float .f64 (Q1 k).r3, .float .f64 (Q1 k).r4, .float .f64 (Q1 k).r5, .float .f64 (Q1 k).r6, .float .f64 (Q1 k).r7, .float .f64 (Q1 k).r8, .float .f64 (Q1 k).r9, .float .f64 (Q1 k).r10, .float .f64 (Q1 k).r11, .int .i64 (Q1 k).ro, .float .f64 (Q1 k).r13] _ (rng_bel hRk hb) Try.underlying43 rfl (by kernel_rfl) ?_; exact hK.out _ _ rfl (bl_refl _)
     ·cases ho
      have e2 : s 2 = _ := hs 2 (by decide) rfl (by kernel_rfl)
      have e5 : s 5 = _ := hs 5 (by decide) rfl (by kernel_rfl)
      simp only [e2, e5] at hK ⊢
      simp only [Act.put, List.setIfInBounds_toArray, List.set_cons_zero, List.set_cons_succ] at hK
      clear hs
      go_simp
      all_goals (try go_wp2_with (first | (go_at_call 118; (with_reducible refine (hends _ (keep hb hPc)).mono ?_); rintro e w' ⟨rfl, hb1⟩)))
      all_goals first | exact hK.out _ _ rfl hb1 | with_reducible exact hK.out _ _ rfl (bl_refl _) | exact hK.out _ _ rfl (bl_refl _)
     ·cases hrd
     ·cases hrd
     ·cases hrd
     ·cases hrd
     ·cases hrd
     ·cases hso
     ·cases hrd
     ·cases hrd
     ·cases hso
    case hp_k7 =>
     intro i o hi ho hso hrd s hs W K hK
     rcases (show i = 0 ∨ i = 1 ∨ i = 2 ∨ i = 3 ∨ i = 4 ∨ i = 5 ∨ i = 6 ∨ i = 7 ∨ i = 8 ∨ i = 9 ∨ i = 10 ∨ i = 11 ∨ i = 12 ∨ i = 13 ∨ i = 14 ∨ i = 15 by omega) with rfl | rfl | rfl | rfl | rfl | rfl | rfl | rfl | rfl | rfl | rfl | rfl | rfl | rfl | rfl | rfl
     rotate_left 2
     ·cases hrd
     rotate_left 1
     cases ho
     have e3 : s 3 = _ := hs 3 (by decide) rfl (by kernel_rfl)
     simp only [e3] at hK ⊢
     rotate_left 1
     ·cases hrd
     ·cases hrd
     cases ho
     have e6 : s 6 = _ := hs 6 (by decide) rfl (by kernel_rfl)
     simp only [e6] at hK ⊢
     rotate_left 1
     cases ho
     have e7 : s 7 = _ := hs 7 (by decide) rfl (by kernel_rfl)
     simp only [e7] at hK ⊢
     rotate_left 1
     cases ho
     have e7 : s 7 = _ := hs 7 (by decide) rfl (by kernel_rfl)
     simp only [e7] at hK ⊢
     rotate_left 1
     cases ho
     have e0 : s 0 = _ := hs 0 (by decide) rfl (by kernel_rfl)
     simp only [e0] at hK ⊢
     rotate_left 1
     cases ho
     have e10 : s 10 = _ := hs 10 (by decide) rfl (by kernel_rfl)
     simp only [e10] at hK ⊢
     rotate_left 1
     ·cases hso
     cases ho
     have e1 : s 1 = _ := hs 1 (by decide) rfl (by kernel_rfl)
     simp only [e1] at hK ⊢
     rotate_left 1
     cases ho
     have e13 : s 13 = _ := hs 13 (by decide) rfl (by kernel_rfl)
     simp only [e13] at hK ⊢
     rotate_left 1
     ·cases hso
     all_goals
      try cases ho
      simp only [Act.put, List.setIfInBounds_toArray, List.set_cons_zero, List.set_cons_succ] at hK
      clear hs
      go_simp
      all_goals first | with_reducible exact hK.out _ rfl | exact hK.out _ rfl
    case hst_k7 =>
     intro i o b q d hi ho hso s hs W hb K hK
     rcases (show i = 0 ∨ i = 1 ∨ i = 2 ∨ i = 3 ∨ i = 4 ∨ i = 5 ∨ i = 6 ∨ i = 7 ∨ i = 8 ∨ i = 9 ∨ i = 10 ∨ i = 11 ∨ i = 12 ∨ i = 13 ∨ i = 14 ∨ i = 15 by omega) with rfl | rfl | rfl | rfl | rfl | rfl | rfl | rfl | rfl | rfl | rfl | rfl | rfl | rfl | rfl | rfl
     ·cases hso
     ·cases hso
     ·cases hso
     ·cases hso
     ·cases hso
     ·cases hso
     ·cases hso
     ·cases hso
     ·cases hso
     ·cases hso
     ·cases hso
     ·cases hso
     ·cases ho
      cases hso
      have e8 : s 8 = _ := hs 8 (by decide) rfl (by kernel_rfl)
      have e11 : s 11 = _ := hs 11 (by decide) rfl (by kernel_rfl)
      simp only [e8, e11] at hK ⊢
      have hth := there_sub (o := k * 14 + 9) (n := 1) (hb.thr _ _ _ hthR) (by omega)
      have hc1 := (hth 0 (by decide)).1
      have hf1 := (hth 0 (by decide)).2
      rw [Nat.add_zero] at hc1 hf1
      obtain ⟨u1, hu1⟩ := Option.isSome_iff_exists.1 hc1
      go_simp
      exact hK.out _ (.inr rfl) rfl hth
     ·cases hso
     ·cases hso
     ·cases ho
      cases hso
      have e9 : s 9 = _ := hs 9 (by decide) rfl (by kernel_rfl)
      have e14 : s 14 = _ := hs 14 (by decide) rfl (by kernel_rfl)
      simp only [e9, e14] at hK ⊢
      have hth := there_sub (o := k * 14 + 10) (n := 1) (hb.thr _ _ _ hthR) (by omega)
      have hc1 := (hth 0 (by decide)).1
      have hf1 := (hth 0 (by decide)).2
      rw [Nat.add_zero] at hc1 hf1
      obtain ⟨u1, hu1⟩ := Option.isSome_iff_exists.1 hc1
      go_simp
      exact hK.out _ (.inr rfl) rfl hth
    case ht_k7 =>
     intro s hs W hfx hout hin
     have e0 : s 0 = _ := hs 0 (by decide) rfl
     have e1 : s 1 = _ := hs 1 (by decide) rfl
     have e2 : s 2 = _ := hs 2 (by decide) rfl
     have e3 : s 3 = _ := hs 3 (by decide) rfl
     have e4 : s 4 = _ := hs 4 (by decide) rfl
     have e5 : s 5 = _ := hs 5 (by decide) rfl
     have e6 : s 6 = _ := hs 6 (by decide) rfl
     have e7 : s 7 = _ := hs 7 (by decide) rfl
     have e8 : s 8 = _ := hs 8 (by decide) rfl
     have e9 : s 9 = _ := hs 9 (by decide) rfl
     have e10 : s 10 = _ := hs 10 (by decide) rfl
     have e11 : s 11 = _ := hs 11 (by decide) rfl
     have e13 : s 13 = _ := hs 13 (by decide) rfl
     have e14 : s 14 = _ := hs 14 (by decide) rfl
     simp only [e0, e1, e2, e3, e4, e5, e6, e7, e8, e9, e10, e11, e13, e14]
     obtain ⟨cs1, g1, g2, g3⟩ := hin 12 _ _ _ rfl
     obtain ⟨cs2, g4, g5, g6⟩ := hin 15 _ _ _ rfl
     rw [e8] at g1
     rw [e9] at g4
     have i1 := cellsV_one g1 g2
     have i2 := cellsV_one g4 g5
     subst i1 i2
     clear hs hin g1 g2 g4 g5 e0 e1 e2 e3 e4 e5 e6 e7 e8 e9 e10 e11 e13 e14
     have hRk7 := rng_ends hRk g3 g6 (fun q n1 n2 => hout gr q hgr (by rintro ⟨j, o, d, h1, h2, h3, h4⟩; dsimp only at h1 h4; split at h1 <;> cases h1 <;> (first | (have h5 : q < k * 14 + 9 + 1 := h4; omega) | (have h5 : q < k * 14 + 10 + 1 := h4; omega))))
     rw [← eT1] at hRk7
     have hRW7 := rws_one (T := T) hRW hRk7 (fun q n1 => hout gr q hgr (by rintro ⟨j, o, d, h1, h2, h3, h4⟩; dsimp only at h1 h4; split at h1 <;> cases h1 <;> (first | (have h5 : q < k * 14 + 9 + 1 := h4; exact n1 ⟨by omega, by omega⟩) | (have h5 : q < k * 14 + 10 + 1 := h4; exact n1 ⟨by omega, by omega⟩))))
     have hsame : ∀ q, W.cell? ⟨gs, q, none⟩ = W5.cell? ⟨gs, q, none⟩ := fun q => hout gs q hgs (by rintro ⟨j, o, d, h1, h2, h3, h4⟩; dsimp only at h1 h4; split at h1 <;> (try (cases h1; done)) <;> (injection h1 with h1; injection h1 with h1; exact hne9 h1))
     have hSt7 : Sts W gs 0 sn S := fun i hi j v hj => by rw [hsame]; exact hSt i hi j v hj
     have hA7 : W.rangeAt gs ((Q1 k).ra.toNat * 5) [.float .f64 (S ((Q1 k).ra.toNat)).sm, .float .f64 (S ((Q1 k).ra.toNat)).si, .float .f64 (S ((Q1 k).ra.toNat)).sx, .float .f64 (S ((Q1 k).ra.toNat)).sy, .float .f64 (S ((Q1 k).ra.toNat)).ss] := by have h := hSt7 _ hAn; rwa [Nat.zero_add] at h
     have hB7 : W.rangeAt gs ((Q1 k).rb.toNat * 5) [.float .f64 (S ((Q1 k).rb.toNat)).sm, .float .f64 (S ((Q1 k).rb.toNat)).si, .float .f64 (S ((Q1 k).rb.toNat)).sx, .float .f64 (S ((Q1 k).rb.toNat)).sy, .float .f64 (S ((Q1 k).rb.toNat)).ss] := by have h := hSt7 _ hBn; rwa [Nat.zero_add] at h
     have hthR7 := hfx.thr _ _ _ hthR
     have hthS7 := hfx.thr _ _ _ hthS
     have hFF := hFF5.trans hfx
     clear hout g3 g6 hsame hfx eT1 eEN hends
     cases hva : mvB (S ((Q1 k).ra.toNat))
     ·cases hvb : mvB (S ((Q1 k).rb.toNat))
      ·repeat (first | ((with_reducible show Oper.wp _ ⟨_, Op.load 45 _, _, _, _, _⟩ _ _ _ _); refine wp_load_mid (P := Try.prog) 45 _ rfl _ _ rfl [.float .f64 (S ((Q1 k).ra.toNat)).sm, .float .f64 (S ((Q1 k).ra.toNat)).si, .float .f64 (S ((Q1 k).ra.toNat)).sx, .float .f64 (S ((Q1 k).ra.toNat)).sy, .float .f64 (S ((Q1 k).ra.toNat)).ss] _ hA7 Try.underlying45 rfl (by kernel_rfl) ?_; simp only [go_sem]) | ((with_reducible show wpList _ _ _ (⟨_, Op.load 45 _, _, _, _, some _⟩ :: _) _ _); refine wpList_gload (by kernel_rfl) 45 _ rfl (gs) ((Q1 k).rb.toNat * 5) rfl [.float .f64 (S ((Q1 k).rb.toNat)).sm, .float .f64 (S ((Q1 k).rb.toNat)).si, .float .f64 (S ((Q1 k).rb.toNat)).sx, .float .f64 (S ((Q1 k).rb.toNat)).sy, .float .f64 (S ((Q1 k).rb.toNat)).ss] _ (rng_bel hB7 hbw8) Try.underlying45 rfl (by kernel_rfl) ?_; simp only [go_sem]) | (go_at_call 119; (with_reducible refine (canMove_w (S ((Q1 k).ra.toNat)) _).mono ?_); rintro e w8 ⟨rfl, hbw8⟩; rw [hva]) | (go_at_call 119; (with_reducible refine (canMove_w (S ((Q1 k).rb.toNat)) _).mono ?_); rintro e w9 ⟨rfl, hbw9⟩; rw [hvb]) | go_step3 | go_values | go_skip | go_guarded | go_step | go_upon | go_back | dsimp only)
       have bel9 := bl_trans hbw8 hbw9
       have hmv : (mvB (M1 ((Q1 k).ra.toNat)) || mvB (M1 ((Q1 k).rb.toNat))) = false := by rw [← (hRel _ hAn).mv, ← (hRel _ hBn).mv, hva, hvb]; rfl
       simp only [go_sem]
       go_at_K
       repeat (first | go_step3 | go_values | go_skip | go_guarded | go_step | go_upon | go_back | dsimp only)
       refine ⟨⟨k + 1, by omega, by go_num, hFF.trans (Fx.of_bel bel9), ?_, ?_⟩, by simp [intOf]; omega⟩
       ·(try rw [en]); exact ⟨bel_there hthR7 bel9, by rw [onR_no hmv]; exact hRW7.bel bel9⟩
       ·(try rw [en]); exact ⟨bel_there hthS7 bel9, S, hSt7.bel bel9, by rw [(onAB_no hmv).1, (onAB_no hmv).2, setF_self, setF_self]; exact hRel⟩
      ·repeat (first | ((with_reducible show Oper.wp _ ⟨_, Op.load 45 _, _, _, _, _⟩ _ _ _ _); refine wp_load_mid (P := Try.prog) 45 _ rfl _ _ rfl [.float .f64 (S ((Q1 k).ra.toNat)).sm, .float .f64 (S ((Q1 k).ra.toNat)).si, .float .f64 (S ((Q1 k).ra.toNat)).sx, .float .f64 (S ((Q1 k).ra.toNat)).sy, .float .f64 (S ((Q1 k).ra.toNat)).ss] _ hA7 Try.underlying45 rfl (by kernel_rfl) ?_; simp only [go_sem]) | ((with_reducible show wpList _ _ _ (⟨_, Op.load 45 _, _, _, _, some _⟩ :: _) _ _); refine wpList_gload (by kernel_rfl) 45 _ rfl (gs) ((Q1 k).rb.toNat * 5) rfl [.float .f64 (S ((Q1 k).rb.toNat)).sm, .float .f64 (S ((Q1 k).rb.toNat)).si, .float .f64 (S ((Q1 k).rb.toNat)).sx, .float .f64 (S ((Q1 k).rb.toNat)).sy, .float .f64 (S ((Q1 k).rb.toNat)).ss] _ (rng_bel hB7 hbw8) Try.underlying45 rfl (by kernel_rfl) ?_; simp only [go_sem]) | (go_at_call 119; (with_reducible refine (canMove_w (S ((Q1 k).ra.toNat)) _).mono ?_); rintro e w8 ⟨rfl, hbw8⟩; rw [hva]) | (go_at_call 119; (with_reducible refine (canMove_w (S ((Q1 k).rb.toNat)) _).mono ?_); rintro e w9 ⟨rfl, hbw9⟩; rw [hvb]) | go_step3 | go_values | go_skip | go_guarded | go_step | go_upon | go_back | dsimp only)
       have bel9 := bl_trans hbw8 hbw9
       have hmv : (mvB (M1 ((Q1 k).ra.toNat)) || mvB (M1 ((Q1 k).rb.toNat))) = true := by rw [← (hRel _ hAn).mv, ← (hRel _ hBn).mv, hva, hvb]; rfl
       have hR9 : w9.rangeAt gr (k * 14) [.int .i64 T.ra, .int .i64 T.rb, .float .f64 T.r2, .float .f64 T.r3, .float .f64 T.r4, .float .f64 T.r5, .float .f64 T.r6, .float .f64 T.r7, .float .f64 T.r8, .float .f64 T.r9, .float .f64 T.r10, .float .f64 T.r11, .int .i64 T.ro, .float .f64 T.r13] := rng_bel hRk7 bel9
       have hA9 : w9.rangeAt gs ((Q1 k).ra.toNat * 5) [.float .f64 (S ((Q1 k).ra.toNat)).sm, .float .f64 (S ((Q1 k).ra.toNat)).si, .float .f64 (S ((Q1 k).ra.toNat)).sx, .float .f64 (S ((Q1 k).ra.toNat)).sy, .float .f64 (S ((Q1 k).ra.toNat)).ss] := rng_bel hA7 bel9
       have hB9 : w9.rangeAt gs ((Q1 k).rb.toNat * 5) [.float .f64 (S ((Q1 k).rb.toNat)).sm, .float .f64 (S ((Q1 k).rb.toNat)).si, .float .f64 (S ((Q1 k).rb.toNat)).sx, .float .f64 (S ((Q1 k).rb.toNat)).sy, .float .f64 (S ((Q1 k).rb.toNat)).ss] := rng_bel hB7 bel9
       have hRW9 := hRW7.bel bel9
       have hSt9 := hSt7.bel bel9
       have hthR9 := bel_there hthR7 bel9
       have hthS9 := bel_there hthS7 bel9
       have hgr9 : gr < w9.heap.size := rws_lt hRW9 hlt
       have hgs9 : gs < w9.heap.size := sts_lt hSt9 hAn
       refine wp_region_knot 24 rfl (fun i v => match i with | 0 => v = .pointer (some ⟨gr, k * 14, none⟩) | 1 => v = .pointer (some ⟨gs, (Q1 k).ra.toNat * 5, none⟩) | 2 => v = .pointer (some ⟨gs, (Q1 k).rb.toNat * 5, none⟩) | 3 => v = .pointer (some ⟨gr, k * 14, none⟩) | 4 => v = .pointer (some ⟨gr, k * 14, none⟩) | 5 => v = .agg #[.int .i64 T.ra, .int .i64 T.rb, .float .f64 T.r2, .float .f64 T.r3, .float .f64 T.r4, .float .f64 T.r5, .float .f64 T.r6, .float .f64 T.r7, .float .f64 T.r8, .float .f64 T.r9, .float .f64 T.r10, .float .f64 T.r11, .int .i64 T.ro, .float .f64 T.r13] | 6 => v = .pointer (some ⟨gs, (Q1 k).ra.toNat * 5, none⟩) | 7 => v = .pointer (some ⟨gs, (Q1 k).ra.toNat * 5, none⟩) | 8 => v = .agg #[.float .f64 (S ((Q1 k).ra.toNat)).sm, .float .f64 (S ((Q1 k).ra.toNat)).si, .float .f64 (S ((Q1 k).ra.toNat)).sx, .float .f64 (S ((Q1 k).ra.toNat)).sy, .float .f64 (S ((Q1 k).ra.toNat)).ss] | 9 => v = .pointer (some ⟨gs, (Q1 k).rb.toNat * 5, none⟩) | 10 => v = .pointer (some ⟨gs, (Q1 k).rb.toNat * 5, none⟩) | 11 => v = .agg #[.float .f64 (S ((Q1 k).rb.toNat)).sm, .float .f64 (S ((Q1 k).rb.toNat)).si, .float .f64 (S ((Q1 k).rb.toNat)).sx, .float .f64 (S ((Q1 k).rb.toNat)).sy, .float .f64 (S ((Q1 k).rb.toNat)).ss] | 12 => ∃ A B : SD, RelS A XO ∧ RelS B YO ∧ v = .tuple #[.agg #[.int .i64 QO.ra, .int .i64 QO.rb, .float .f64 QO.r2, .float .f64 QO.r3, .float .f64 QO.r4, .float .f64 QO.r5, .float .f64 QO.r6, .float .f64 QO.r7, .float .f64 QO.r8, .float .f64 QO.r9, .float .f64 QO.r10, .float .f64 QO.r11, .int .i64 QO.ro, .float .f64 QO.r13], .agg #[.float .f64 A.sm, .float .f64 A.si, .float .f64 A.sx, .float .f64 A.sy, .float .f64 A.ss], .agg #[.float .f64 B.sm, .float .f64 B.si, .float .f64 B.sx, .float .f64 B.sy, .float .f64 B.ss], .int .i64 0] | 13 => ∃ A B : SD, RelS A XO ∧ RelS B YO ∧ v = .tuple #[.agg #[.int .i64 QO.ra, .int .i64 QO.rb, .float .f64 QO.r2, .float .f64 QO.r3, .float .f64 QO.r4, .float .f64 QO.r5, .float .f64 QO.r6, .float .f64 QO.r7, .float .f64 QO.r8, .float .f64 QO.r9, .float .f64 QO.r10, .float .f64 QO.r11, .int .i64 QO.ro, .float .f64 QO.r13], .agg #[.float .f64 A.sm, .float .f64 A.si, .float .f64 A.sx, .float .f64 A.sy, .float .f64 A.ss], .agg #[.float .f64 B.sm, .float .f64 B.si, .float .f64 B.sx, .float .f64 B.sy, .float .f64 B.ss], .int .i64 0] | 14 => v = .agg #[.int .i64 QO.ra, .int .i64 QO.rb, .float .f64 QO.r2, .float .f64 QO.r3, .float .f64 QO.r4, .float .f64 QO.r5, .float .f64 QO.r6, .float .f64 QO.r7, .float .f64 QO.r8, .float .f64 QO.r9, .float .f64 QO.r10, .float .f64 QO.r11, .int .i64 QO.ro, .float .f64 QO.r13] | 15 => ∃ A : SD, RelS A XO ∧ v = .agg #[.float .f64 A.sm, .float .f64 A.si, .float .f64 A.sx, .float .f64 A.sy, .float .f64 A.ss] | 16 => ∃ B : SD, RelS B YO ∧ v = .agg #[.float .f64 B.sm, .float .f64 B.si, .float .f64 B.sx, .float .f64 B.sy, .float .f64 B.ss] | 17 => v = .int .i64 0 | 18 => v = .pointer (some ⟨gr, k * 14, none⟩) | 20 => v = .pointer (some ⟨gs, (Q1 k).ra.toNat * 5, none⟩) | 22 => v = .pointer (some ⟨gs, (Q1 k).rb.toNat * 5, none⟩) | _ => False) (fun i => match i with | 5 => true | 8 => true | 11 => true | 12 => true | _ => false) (fun i => match i with | 19 => some (gr, k * 14, 14) | 21 => some (gs, (Q1 k).ra.toNat * 5, 15) | 23 => some (gs, (Q1 k).rb.toNat * 5, 16) | _ => none) (fun i => match i with | 19 => 14 | 21 => 5 | 23 => 5 | _ => 0) [gr, gs] 4 ?A_kaa (by kernel_rfl) (by kernel_rfl) ?hA_kaa ?hpre_kaa ?hdep_kaa ?hne_kaa ?hq_kaa ?hp_kaa ?hst_kaa ?ht_kaa
       case hA_kaa =>
        intro s
        simp only [putL, dstO, Act.put, List.getElem?_toArray, List.getElem?_cons_zero, List.getElem?_cons_succ, Option.bind_some, List.setIfInBounds_toArray, List.set_cons_zero, List.set_cons_succ, if_true]
        all_goals exact rfl
       case hpre_kaa =>
        intro i j b o d hi hr hso
        have hj : j = 19 ∨ j = 21 ∨ j = 23 := by
         split at hso
         all_goals first | omega | (cases hso; done)
        rcases (show i = 0 ∨ i = 1 ∨ i = 2 ∨ i = 3 ∨ i = 4 ∨ i = 5 ∨ i = 6 ∨ i = 7 ∨ i = 8 ∨ i = 9 ∨ i = 10 ∨ i = 11 ∨ i = 12 ∨ i = 13 ∨ i = 14 ∨ i = 15 ∨ i = 16 ∨ i = 17 ∨ i = 18 ∨ i = 19 ∨ i = 20 ∨ i = 21 ∨ i = 22 ∨ i = 23 by omega) with rfl | rfl | rfl | rfl | rfl | rfl | rfl | rfl | rfl | rfl | rfl | rfl | rfl | rfl | rfl | rfl | rfl | rfl | rfl | rfl | rfl | rfl | rfl | rfl
        all_goals first
         | (cases hr; done)
         | (rcases hj with rfl | rfl | rfl <;> (show rch _ _ _ _ = true) <;> kernel_rfl)
       case hdep_kaa =>
        intro i b o d hso
        split at hso
        all_goals first | (cases hso; done) | (cases hso; exact ⟨by decide, rfl, by simp, by decide, rfl, by kernel_rfl⟩)
       case hne_kaa =>
        intro i j b o d o' d' hij h1 h2
        split at h1
        all_goals (try (cases h1; done))
        all_goals split at h2
        all_goals (try (cases h2; done))
        all_goals (cases h1; cases h2; first | (exact absurd rfl hij) | (exact absurd rfl hne9) | (exact absurd rfl hne9.symm) | (simp only []; omega) | omega)
       case hq_kaa =>
        intro i o hi ho hso hrd s hs W hb K hK
        rcases (show i = 0 ∨ i = 1 ∨ i = 2 ∨ i = 3 ∨ i = 4 ∨ i = 5 ∨ i = 6 ∨ i = 7 ∨ i = 8 ∨ i = 9 ∨ i = 10 ∨ i = 11 ∨ i = 12 ∨ i = 13 ∨ i = 14 ∨ i = 15 ∨ i = 16 ∨ i = 17 ∨ i = 18 ∨ i = 19 ∨ i = 20 ∨ i = 21 ∨ i = 22 ∨ i = 23 by omega) with rfl | rfl | rfl | rfl | rfl | rfl | rfl | rfl | rfl | rfl | rfl | rfl | rfl | rfl | rfl | rfl | rfl | rfl | rfl | rfl | rfl | rfl | rfl | rfl
        ·cases hrd
        ·cases hrd
        ·cases hrd
        ·cases hrd
        ·cases hrd
        ·cases ho
         have e4 : s 4 = _ := hs 4 (by decide) rfl (by kernel_rfl)
         simp only [e4] at hK ⊢
         simp only [Act.put, List.setIfInBounds_toArray, List.set_cons_zero, List.set_cons_succ] at hK
         clear hs
         refine wp_load_mid (P := Try.prog) 43 _ rfl _ _ rfl [.int .i64 T.ra, .int .i64 T.rb, .float .f64 T.r2, .float .f64 T.r3, .float .f64 T.r4, .float .f64 T.r5, .float .f64 T.r6, .float .f64 T.r7, .float .f64 T.r8, .float .f64 T.r9, .float .f64 T.r10, .float .f64 T.r11, .int .i64 T.ro, .float .f64 T.r13] _ (rng_bel hR9 hb) Try.underlying43 rfl (by kernel_rfl) ?_; exact hK.out _ _ rfl (bl_refl _)
        ·cases hrd
        ·cases hrd
        ·cases ho
         have e7 : s 7 = _ := hs 7 (by decide) rfl (by kernel_rfl)
         simp only [e7] at hK ⊢
         simp only [Act.put, List.setIfInBounds_toArray, List.set_cons_zero, List.set_cons_succ] at hK
         clear hs
         refine wp_load_mid (P := Try.prog) 45 _ rfl _ _ rfl [.float .f64 (S ((Q1 k).ra.toNat)).sm, .float .f64 (S ((Q1 k).ra.toNat)).si, .float .f64 (S ((Q1 k).ra.toNat)).sx, .float .f64 (S ((Q1 k).ra.toNat)).sy, .float .f64 (S ((Q1 k).ra.toNat)).ss] _ (rng_bel hA9 hb) Try.underlying45 rfl (by kernel_rfl) ?_; exact hK.out _ _ rfl (bl_refl _)
        ·cases hrd
        ·cases hrd
        ·cases ho
         have e10 : s 10 = _ := hs 10 (by decide) rfl (by kernel_rfl)
         simp only [e10] at hK ⊢
         simp only [Act.put, List.setIfInBounds_toArray, List.set_cons_zero, List.set_cons_succ] at hK
         clear hs
         refine wp_load_mid (P := Try.prog) 45 _ rfl _ _ rfl [.float .f64 (S ((Q1 k).rb.toNat)).sm, .float .f64 (S ((Q1 k).rb.toNat)).si, .float .f64 (S ((Q1 k).rb.toNat)).sx, .float .f64 (S ((Q1 k).rb.toNat)).sy, .float .f64 (S ((Q1 k).rb.toNat)).ss] _ (rng_bel hB9 hb) Try.underlying45 rfl (by kernel_rfl) ?_; exact hK.out _ _ rfl (bl_refl _)
        ·cases ho
         have e5 : s 5 = _ := hs 5 (by decide) rfl (by kernel_rfl)
         have e8 : s 8 = _ := hs 8 (by decide) rfl (by kernel_rfl)
         have e11 : s 11 = _ := hs 11 (by decide) rfl (by kernel_rfl)
         simp only [e5, e8, e11] at hK ⊢
         simp only [Act.put, List.setIfInBounds_toArray, List.set_cons_zero, List.set_cons_succ] at hK
         clear hs
         go_simp
         all_goals (try go_wp2_with (first | (go_at_call 18; (with_reducible refine (hone _).mono ?_); rintro e w' ⟨A, B, q1, q2, rfl, hb1⟩)))
         all_goals first | exact hK.out _ _ ⟨A, B, q1, q2, rfl⟩ hb1 | with_reducible exact hK.out _ _ rfl (bl_refl _) | exact hK.out _ _ rfl (bl_refl _)
        ·cases hrd
        ·cases hrd
        ·cases hrd
        ·cases hrd
        ·cases hrd
        ·cases hrd
        ·cases hso
        ·cases hrd
        ·cases hso
        ·cases hrd
        ·cases hso
       case hp_kaa =>
        intro i o hi ho hso hrd s hs W K hK
        rcases (show i = 0 ∨ i = 1 ∨ i = 2 ∨ i = 3 ∨ i = 4 ∨ i = 5 ∨ i = 6 ∨ i = 7 ∨ i = 8 ∨ i = 9 ∨ i = 10 ∨ i = 11 ∨ i = 12 ∨ i = 13 ∨ i = 14 ∨ i = 15 ∨ i = 16 ∨ i = 17 ∨ i = 18 ∨ i = 19 ∨ i = 20 ∨ i = 21 ∨ i = 22 ∨ i = 23 by omega) with rfl | rfl | rfl | rfl | rfl | rfl | rfl | rfl | rfl | rfl | rfl | rfl | rfl | rfl | rfl | rfl | rfl | rfl | rfl | rfl | rfl | rfl | rfl | rfl
        rotate_left 4
        cases ho
        have e3 : s 3 = _ := hs 3 (by decide) rfl (by kernel_rfl)
        simp only [e3] at hK ⊢
        rotate_left 1
        ·cases hrd
        rotate_left 1
        cases ho
        have e6 : s 6 = _ := hs 6 (by decide) rfl (by kernel_rfl)
        simp only [e6] at hK ⊢
        rotate_left 1
        ·cases hrd
        rotate_left 1
        cases ho
        have e9 : s 9 = _ := hs 9 (by decide) rfl (by kernel_rfl)
        simp only [e9] at hK ⊢
        rotate_left 1
        ·cases hrd
        ·cases hrd
        ·cases ho
         obtain ⟨A, B, q1, q2, e12⟩ := hs 12 (by decide) rfl (by kernel_rfl)
         simp only [e12] at hK ⊢
         simp only [Act.put, List.setIfInBounds_toArray, List.set_cons_zero, List.set_cons_succ] at hK
         clear hs
         go_simp
         all_goals first | exact hK.out _ ⟨A, B, q1, q2, rfl⟩ | with_reducible exact hK.out _ rfl | exact hK.out _ rfl
        cases ho
        obtain ⟨A, B, q1, q2, e13⟩ := hs 13 (by decide) rfl (by kernel_rfl)
        simp only [e13] at hK ⊢
        rotate_left 1
        ·cases ho
         obtain ⟨A, B, q1, q2, e13⟩ := hs 13 (by decide) rfl (by kernel_rfl)
         simp only [e13] at hK ⊢
         simp only [Act.put, List.setIfInBounds_toArray, List.set_cons_zero, List.set_cons_succ] at hK
         clear hs
         go_simp
         all_goals first | exact hK.out _ ⟨A, q1, rfl⟩ | with_reducible exact hK.out _ rfl | exact hK.out _ rfl
        ·cases ho
         obtain ⟨A, B, q1, q2, e13⟩ := hs 13 (by decide) rfl (by kernel_rfl)
         simp only [e13] at hK ⊢
         simp only [Act.put, List.setIfInBounds_toArray, List.set_cons_zero, List.set_cons_succ] at hK
         clear hs
         go_simp
         all_goals first | exact hK.out _ ⟨B, q2, rfl⟩ | with_reducible exact hK.out _ rfl | exact hK.out _ rfl
        cases ho
        obtain ⟨A, B, q1, q2, e13⟩ := hs 13 (by decide) rfl (by kernel_rfl)
        simp only [e13] at hK ⊢
        rotate_left 1
        cases ho
        have e0 : s 0 = _ := hs 0 (by decide) rfl (by kernel_rfl)
        simp only [e0] at hK ⊢
        rotate_left 1
        ·cases hso
        cases ho
        have e1 : s 1 = _ := hs 1 (by decide) rfl (by kernel_rfl)
        simp only [e1] at hK ⊢
        rotate_left 1
        ·cases hso
        cases ho
        have e2 : s 2 = _ := hs 2 (by decide) rfl (by kernel_rfl)
        simp only [e2] at hK ⊢
        rotate_left 1
        ·cases hso
        all_goals
         try cases ho
         simp only [Act.put, List.setIfInBounds_toArray, List.set_cons_zero, List.set_cons_succ] at hK
         clear hs
         go_simp
         all_goals first | with_reducible exact hK.out _ rfl | exact hK.out _ rfl
       case hst_kaa =>
        intro i o b q d hi ho hso s hs W hb K hK
        rcases (show i = 0 ∨ i = 1 ∨ i = 2 ∨ i = 3 ∨ i = 4 ∨ i = 5 ∨ i = 6 ∨ i = 7 ∨ i = 8 ∨ i = 9 ∨ i = 10 ∨ i = 11 ∨ i = 12 ∨ i = 13 ∨ i = 14 ∨ i = 15 ∨ i = 16 ∨ i = 17 ∨ i = 18 ∨ i = 19 ∨ i = 20 ∨ i = 21 ∨ i = 22 ∨ i = 23 by omega) with rfl | rfl | rfl | rfl | rfl | rfl | rfl | rfl | rfl | rfl | rfl | rfl | rfl | rfl | rfl | rfl | rfl | rfl | rfl | rfl | rfl | rfl | rfl | rfl
        ·cases hso
        ·cases hso
        ·cases hso
        ·cases hso
        ·cases hso
        ·cases hso
        ·cases hso
        ·cases hso
        ·cases hso
        ·cases hso
        ·cases hso
        ·cases hso
        ·cases hso
        ·cases hso
        ·cases hso
        ·cases hso
        ·cases hso
        ·cases hso
        ·cases hso
        ·cases ho
         cases hso
         have e14 : s 14 = _ := hs 14 (by decide) rfl (by kernel_rfl)
         have e18 : s 18 = _ := hs 18 (by decide) rfl (by kernel_rfl)
         simp only [e14, e18] at hK ⊢
         have hth := there_sub (hb.thr _ _ _ hthR9) hlR
         refine wp_store_mid (P := Try.prog) 43 _ _ rfl (gr) (k * 14) #[.int .i64 QO.ra, .int .i64 QO.rb, .float .f64 QO.r2, .float .f64 QO.r3, .float .f64 QO.r4, .float .f64 QO.r5, .float .f64 QO.r6, .float .f64 QO.r7, .float .f64 QO.r8, .float .f64 QO.r9, .float .f64 QO.r10, .float .f64 QO.r11, .int .i64 QO.ro, .float .f64 QO.r13] rfl rfl hth (by kernel_rfl) (by kernel_rfl) ?_
         exact hK.out [.int .i64 QO.ra, .int .i64 QO.rb, .float .f64 QO.r2, .float .f64 QO.r3, .float .f64 QO.r4, .float .f64 QO.r5, .float .f64 QO.r6, .float .f64 QO.r7, .float .f64 QO.r8, .float .f64 QO.r9, .float .f64 QO.r10, .float .f64 QO.r11, .int .i64 QO.ro, .float .f64 QO.r13] (.inl rfl) rfl hth
        ·cases hso
        ·cases ho
         cases hso
         obtain ⟨A3, q3, e15⟩ := hs 15 (by decide) rfl (by kernel_rfl)
         have e20 : s 20 = _ := hs 20 (by decide) rfl (by kernel_rfl)
         simp only [e15, e20] at hK ⊢
         have hth := there_sub (hb.thr _ _ _ hthS9) hlA
         refine wp_store_mid (P := Try.prog) 45 _ _ rfl (gs) ((Q1 k).ra.toNat * 5) #[.float .f64 A3.sm, .float .f64 A3.si, .float .f64 A3.sx, .float .f64 A3.sy, .float .f64 A3.ss] rfl rfl hth (by kernel_rfl) (by kernel_rfl) ?_
         exact hK.out [.float .f64 A3.sm, .float .f64 A3.si, .float .f64 A3.sx, .float .f64 A3.sy, .float .f64 A3.ss] (.inl rfl) rfl hth
        ·cases hso
        ·cases ho
         cases hso
         obtain ⟨B3, q4, e16⟩ := hs 16 (by decide) rfl (by kernel_rfl)
         have e22 : s 22 = _ := hs 22 (by decide) rfl (by kernel_rfl)
         simp only [e16, e22] at hK ⊢
         have hth := there_sub (hb.thr _ _ _ hthS9) hlB
         refine wp_store_mid (P := Try.prog) 45 _ _ rfl (gs) ((Q1 k).rb.toNat * 5) #[.float .f64 B3.sm, .float .f64 B3.si, .float .f64 B3.sx, .float .f64 B3.sy, .float .f64 B3.ss] rfl rfl hth (by kernel_rfl) (by kernel_rfl) ?_
         exact hK.out [.float .f64 B3.sm, .float .f64 B3.si, .float .f64 B3.sx, .float .f64 B3.sy, .float .f64 B3.ss] (.inl rfl) rfl hth
       case ht_kaa =>
        intro s hs W hfx hout hin
        have e0 : s 0 = _ := hs 0 (by decide) rfl
        have e1 : s 1 = _ := hs 1 (by decide) rfl
        have e2 : s 2 = _ := hs 2 (by decide) rfl
        have e3 : s 3 = _ := hs 3 (by decide) rfl
        have e4 : s 4 = _ := hs 4 (by decide) rfl
        have e5 : s 5 = _ := hs 5 (by decide) rfl
        have e6 : s 6 = _ := hs 6 (by decide) rfl
        have e7 : s 7 = _ := hs 7 (by decide) rfl
        have e8 : s 8 = _ := hs 8 (by decide) rfl
        have e9 : s 9 = _ := hs 9 (by decide) rfl
        have e10 : s 10 = _ := hs 10 (by decide) rfl
        have e11 : s 11 = _ := hs 11 (by decide) rfl
        obtain ⟨A, B, q1, q2, e12⟩ := hs 12 (by decide) rfl
        obtain ⟨A, B, q1, q2, e13⟩ := hs 13 (by decide) rfl
        have e14 : s 14 = _ := hs 14 (by decide) rfl
        obtain ⟨A3, q3, e15⟩ := hs 15 (by decide) rfl
        obtain ⟨B3, q4, e16⟩ := hs 16 (by decide) rfl
        have e17 : s 17 = _ := hs 17 (by decide) rfl
        have e18 : s 18 = _ := hs 18 (by decide) rfl
        have e20 : s 20 = _ := hs 20 (by decide) rfl
        have e22 : s 22 = _ := hs 22 (by decide) rfl
        simp only [e0, e1, e2, e3, e4, e5, e6, e7, e8, e9, e10, e11, e12, e13, e14, e15, e16, e17, e18, e20, e22]
        obtain ⟨cs0, g01, g02, g03⟩ := hin 19 _ _ _ rfl
        obtain ⟨cs1, g1, g2, g3⟩ := hin 21 _ _ _ rfl
        obtain ⟨cs2, g4, g5, g6⟩ := hin 23 _ _ _ rfl
        rw [e14] at g01
        rw [e15] at g1
        rw [e16] at g4
        have i0 := cellsV_agg (l := [.int .i64 QO.ra, .int .i64 QO.rb, .float .f64 QO.r2, .float .f64 QO.r3, .float .f64 QO.r4, .float .f64 QO.r5, .float .f64 QO.r6, .float .f64 QO.r7, .float .f64 QO.r8, .float .f64 QO.r9, .float .f64 QO.r10, .float .f64 QO.r11, .int .i64 QO.ro, .float .f64 QO.r13]) g01 (by rw [g02]; decide)
        have i1 := cellsV_agg (l := [.float .f64 A3.sm, .float .f64 A3.si, .float .f64 A3.sx, .float .f64 A3.sy, .float .f64 A3.ss]) g1 (by rw [g2]; decide)
        have i2 := cellsV_agg (l := [.float .f64 B3.sm, .float .f64 B3.si, .float .f64 B3.sx, .float .f64 B3.sy, .float .f64 B3.ss]) g4 (by rw [g5]; decide)
        subst i0 i1 i2
        clear hs hin g01 g02 g1 g2 g4 g5 e0 e1 e2 e3 e4 e5 e6 e7 e8 e9 e10 e11 e12 e13 e14 e15 e16 e17 e18 e20 e22
        have hR10 := rws_one (T := QO) hRW9 g03 (fun q n1 => hout gr q hgr9 (by rintro ⟨j, o, d, h1, h2, h3, h4⟩; dsimp only at h1 h4; split at h1; (cases h1; exact n1 ⟨h3, h4⟩); (injection h1 with h1; injection h1 with h1; exact hne9 h1.symm); (injection h1 with h1; injection h1 with h1; exact hne9 h1.symm); cases h1))
        have hS10 := sts_two (a' := A3) (b' := B3) hSt9 g3 g6 (fun q n1 n2 => hout gs q hgs9 (by rintro ⟨j, o, d, h1, h2, h3, h4⟩; dsimp only at h1 h4; split at h1; (injection h1 with h1; injection h1 with h1; exact hne9 h1); (cases h1; exact n1 ⟨h3, h4⟩); (cases h1; exact n2 ⟨h3, h4⟩); cases h1))
        have hRel10 := rel_two (A := (Q1 k).ra.toNat) (B := (Q1 k).rb.toNat) hRel q3 q4
        rw [setF_two] at hR10
        repeat (first | go_step3 | go_values | go_skip | go_guarded | go_step | go_upon | go_back | dsimp only)
        simp only [go_sem]
        go_at_K
        repeat (first | go_step3 | go_values | go_skip | go_guarded | go_step | go_upon | go_back | dsimp only)
        refine ⟨⟨k + 1, by omega, by go_num, (hFF.trans (Fx.of_bel bel9)).trans hfx, ?_, ?_⟩, by simp [intOf]; omega⟩
        ·(try rw [en]); exact ⟨hfx.thr _ _ _ hthR9, by rw [onR_mv hmv, eQO]; exact hR10⟩
        ·(try rw [en]); exact ⟨hfx.thr _ _ _ hthS9, _, hS10, by rw [(onAB_mv hmv).1, (onAB_mv hmv).2, eXO, eYO]; exact hRel10⟩
     ·repeat (first | ((with_reducible show Oper.wp _ ⟨_, Op.load 45 _, _, _, _, _⟩ _ _ _ _); refine wp_load_mid (P := Try.prog) 45 _ rfl _ _ rfl [.float .f64 (S ((Q1 k).ra.toNat)).sm, .float .f64 (S ((Q1 k).ra.toNat)).si, .float .f64 (S ((Q1 k).ra.toNat)).sx, .float .f64 (S ((Q1 k).ra.toNat)).sy, .float .f64 (S ((Q1 k).ra.toNat)).ss] _ hA7 Try.underlying45 rfl (by kernel_rfl) ?_; simp only [go_sem]) | ((with_reducible show wpList _ _ _ (⟨_, Op.load 45 _, _, _, _, some _⟩ :: _) _ _); refine wpList_gload (by kernel_rfl) 45 _ rfl (gs) ((Q1 k).rb.toNat * 5) rfl [.float .f64 (S ((Q1 k).rb.toNat)).sm, .float .f64 (S ((Q1 k).rb.toNat)).si, .float .f64 (S ((Q1 k).rb.toNat)).sx, .float .f64 (S ((Q1 k).rb.toNat)).sy, .float .f64 (S ((Q1 k).rb.toNat)).ss] _ (rng_bel hB7 hbw8) Try.underlying45 rfl (by kernel_rfl) ?_; simp only [go_sem]) | (go_at_call 119; (with_reducible refine (canMove_w (S ((Q1 k).ra.toNat)) _).mono ?_); rintro e w8 ⟨rfl, hbw8⟩; rw [hva]) | go_step3 | go_values | go_skip | go_guarded | go_step | go_upon | go_back | dsimp only)
      have hmv : (mvB (M1 ((Q1 k).ra.toNat)) || mvB (M1 ((Q1 k).rb.toNat))) = true := by rw [← (hRel _ hAn).mv, hva]; rfl
      have hR9 : w8.rangeAt gr (k * 14) [.int .i64 T.ra, .int .i64 T.rb, .float .f64 T.r2, .float .f64 T.r3, .float .f64 T.r4, .float .f64 T.r5, .float .f64 T.r6, .float .f64 T.r7, .float .f64 T.r8, .float .f64 T.r9, .float .f64 T.r10, .float .f64 T.r11, .int .i64 T.ro, .float .f64 T.r13] := rng_bel hRk7 hbw8
      have hA9 : w8.rangeAt gs ((Q1 k).ra.toNat * 5) [.float .f64 (S ((Q1 k).ra.toNat)).sm, .float .f64 (S ((Q1 k).ra.toNat)).si, .float .f64 (S ((Q1 k).ra.toNat)).sx, .float .f64 (S ((Q1 k).ra.toNat)).sy, .float .f64 (S ((Q1 k).ra.toNat)).ss] := rng_bel hA7 hbw8
      have hB9 : w8.rangeAt gs ((Q1 k).rb.toNat * 5) [.float .f64 (S ((Q1 k).rb.toNat)).sm, .float .f64 (S ((Q1 k).rb.toNat)).si, .float .f64 (S ((Q1 k).rb.toNat)).sx, .float .f64 (S ((Q1 k).rb.toNat)).sy, .float .f64 (S ((Q1 k).rb.toNat)).ss] := rng_bel hB7 hbw8
      have hRW9 := hRW7.bel hbw8
      have hSt9 := hSt7.bel hbw8
      have hthR9 := bel_there hthR7 hbw8
      have hthS9 := bel_there hthS7 hbw8
      have hgr9 : gr < w8.heap.size := rws_lt hRW9 hlt
      have hgs9 : gs < w8.heap.size := sts_lt hSt9 hAn
      refine wp_region_knot 24 rfl (fun i v => match i with | 0 => v = .pointer (some ⟨gr, k * 14, none⟩) | 1 => v = .pointer (some ⟨gs, (Q1 k).ra.toNat * 5, none⟩) | 2 => v = .pointer (some ⟨gs, (Q1 k).rb.toNat * 5, none⟩) | 3 => v = .pointer (some ⟨gr, k * 14, none⟩) | 4 => v = .pointer (some ⟨gr, k * 14, none⟩) | 5 => v = .agg #[.int .i64 T.ra, .int .i64 T.rb, .float .f64 T.r2, .float .f64 T.r3, .float .f64 T.r4, .float .f64 T.r5, .float .f64 T.r6, .float .f64 T.r7, .float .f64 T.r8, .float .f64 T.r9, .float .f64 T.r10, .float .f64 T.r11, .int .i64 T.ro, .float .f64 T.r13] | 6 => v = .pointer (some ⟨gs, (Q1 k).ra.toNat * 5, none⟩) | 7 => v = .pointer (some ⟨gs, (Q1 k).ra.toNat * 5, none⟩) | 8 => v = .agg #[.float .f64 (S ((Q1 k).ra.toNat)).sm, .float .f64 (S ((Q1 k).ra.toNat)).si, .float .f64 (S ((Q1 k).ra.toNat)).sx, .float .f64 (S ((Q1 k).ra.toNat)).sy, .float .f64 (S ((Q1 k).ra.toNat)).ss] | 9 => v = .pointer (some ⟨gs, (Q1 k).rb.toNat * 5, none⟩) | 10 => v = .pointer (some ⟨gs, (Q1 k).rb.toNat * 5, none⟩) | 11 => v = .agg #[.float .f64 (S ((Q1 k).rb.toNat)).sm, .float .f64 (S ((Q1 k).rb.toNat)).si, .float .f64 (S ((Q1 k).rb.toNat)).sx, .float .f64 (S ((Q1 k).rb.toNat)).sy, .float .f64 (S ((Q1 k).rb.toNat)).ss] | 12 => ∃ A B : SD, RelS A XO ∧ RelS B YO ∧ v = .tuple #[.agg #[.int .i64 QO.ra, .int .i64 QO.rb, .float .f64 QO.r2, .float .f64 QO.r3, .float .f64 QO.r4, .float .f64 QO.r5, .float .f64 QO.r6, .float .f64 QO.r7, .float .f64 QO.r8, .float .f64 QO.r9, .float .f64 QO.r10, .float .f64 QO.r11, .int .i64 QO.ro, .float .f64 QO.r13], .agg #[.float .f64 A.sm, .float .f64 A.si, .float .f64 A.sx, .float .f64 A.sy, .float .f64 A.ss], .agg #[.float .f64 B.sm, .float .f64 B.si, .float .f64 B.sx, .float .f64 B.sy, .float .f64 B.ss], .int .i64 0] | 13 => ∃ A B : SD, RelS A XO ∧ RelS B YO ∧ v = .tuple #[.agg #[.int .i64 QO.ra, .int .i64 QO.rb, .float .f64 QO.r2, .float .f64 QO.r3, .float .f64 QO.r4, .float .f64 QO.r5, .float .f64 QO.r6, .float .f64 QO.r7, .float .f64 QO.r8, .float .f64 QO.r9, .float .f64 QO.r10, .float .f64 QO.r11, .int .i64 QO.ro, .float .f64 QO.r13], .agg #[.float .f64 A.sm, .float .f64 A.si, .float .f64 A.sx, .float .f64 A.sy, .float .f64 A.ss], .agg #[.float .f64 B.sm, .float .f64 B.si, .float .f64 B.sx, .float .f64 B.sy, .float .f64 B.ss], .int .i64 0] | 14 => v = .agg #[.int .i64 QO.ra, .int .i64 QO.rb, .float .f64 QO.r2, .float .f64 QO.r3, .float .f64 QO.r4, .float .f64 QO.r5, .float .f64 QO.r6, .float .f64 QO.r7, .float .f64 QO.r8, .float .f64 QO.r9, .float .f64 QO.r10, .float .f64 QO.r11, .int .i64 QO.ro, .float .f64 QO.r13] | 15 => ∃ A : SD, RelS A XO ∧ v = .agg #[.float .f64 A.sm, .float .f64 A.si, .float .f64 A.sx, .float .f64 A.sy, .float .f64 A.ss] | 16 => ∃ B : SD, RelS B YO ∧ v = .agg #[.float .f64 B.sm, .float .f64 B.si, .float .f64 B.sx, .float .f64 B.sy, .float .f64 B.ss] | 17 => v = .int .i64 0 | 18 => v = .pointer (some ⟨gr, k * 14, none⟩) | 20 => v = .pointer (some ⟨gs, (Q1 k).ra.toNat * 5, none⟩) | 22 => v = .pointer (some ⟨gs, (Q1 k).rb.toNat * 5, none⟩) | _ => False) (fun i => match i with | 5 => true | 8 => true | 11 => true | 12 => true | _ => false) (fun i => match i with | 19 => some (gr, k * 14, 14) | 21 => some (gs, (Q1 k).ra.toNat * 5, 15) | 23 => some (gs, (Q1 k).rb.toNat * 5, 16) | _ => none) (fun i => match i with | 19 => 14 | 21 => 5 | 23 => 5 | _ => 0) [gr, gs] 4 ?A_kba (by kernel_rfl) (by kernel_rfl) ?hA_kba ?hpre_kba ?hdep_kba ?hne_kba ?hq_kba ?hp_kba ?hst_kba ?ht_kba
      case hA_kba =>
       intro s
       simp only [putL, dstO, Act.put, List.getElem?_toArray, List.getElem?_cons_zero, List.getElem?_cons_succ, Option.bind_some, List.setIfInBounds_toArray, List.set_cons_zero, List.set_cons_succ, if_true]
       all_goals exact rfl
      case hpre_kba =>
       intro i j b o d hi hr hso
       have hj : j = 19 ∨ j = 21 ∨ j = 23 := by
        split at hso
        all_goals first | omega | (cases hso; done)
       rcases (show i = 0 ∨ i = 1 ∨ i = 2 ∨ i = 3 ∨ i = 4 ∨ i = 5 ∨ i = 6 ∨ i = 7 ∨ i = 8 ∨ i = 9 ∨ i = 10 ∨ i = 11 ∨ i = 12 ∨ i = 13 ∨ i = 14 ∨ i = 15 ∨ i = 16 ∨ i = 17 ∨ i = 18 ∨ i = 19 ∨ i = 20 ∨ i = 21 ∨ i = 22 ∨ i = 23 by omega) with rfl | rfl | rfl | rfl | rfl | rfl | rfl | rfl | rfl | rfl | rfl | rfl | rfl | rfl | rfl | rfl | rfl | rfl | rfl | rfl | rfl | rfl | rfl | rfl
       all_goals first
        | (cases hr; done)
        | (rcases hj with rfl | rfl | rfl <;> (show rch _ _ _ _ = true) <;> kernel_rfl)
      case hdep_kba =>
       intro i b o d hso
       split at hso
       all_goals first | (cases hso; done) | (cases hso; exact ⟨by decide, rfl, by simp, by decide, rfl, by kernel_rfl⟩)
      case hne_kba =>
       intro i j b o d o' d' hij h1 h2
       split at h1
       all_goals (try (cases h1; done))
       all_goals split at h2
       all_goals (try (cases h2; done))
       all_goals (cases h1; cases h2; first | (exact absurd rfl hij) | (exact absurd rfl hne9) | (exact absurd rfl hne9.symm) | (simp only []; omega) | omega)
      case hq_kba =>
       intro i o hi ho hso hrd s hs W hb K hK
       rcases (show i = 0 ∨ i = 1 ∨ i = 2 ∨ i = 3 ∨ i = 4 ∨ i = 5 ∨ i = 6 ∨ i = 7 ∨ i = 8 ∨ i = 9 ∨ i = 10 ∨ i = 11 ∨ i = 12 ∨ i = 13 ∨ i = 14 ∨ i = 15 ∨ i = 16 ∨ i = 17 ∨ i = 18 ∨ i = 19 ∨ i = 20 ∨ i = 21 ∨ i = 22 ∨ i = 23 by omega) with rfl | rfl | rfl | rfl | rfl | rfl | rfl | rfl | rfl | rfl | rfl | rfl | rfl | rfl | rfl | rfl | rfl | rfl | rfl | rfl | rfl | rfl | rfl | rfl
       ·cases hrd
       ·cases hrd
       ·cases hrd
       ·cases hrd
       ·cases hrd
       ·cases ho
        have e4 : s 4 = _ := hs 4 (by decide) rfl (by kernel_rfl)
        simp only [e4] at hK ⊢
        simp only [Act.put, List.setIfInBounds_toArray, List.set_cons_zero, List.set_cons_succ] at hK
        clear hs
        refine wp_load_mid (P := Try.prog) 43 _ rfl _ _ rfl [.int .i64 T.ra, .int .i64 T.rb, .float .f64 T.r2, .float .f64 T.r3, .float .f64 T.r4, .float .f64 T.r5, .float .f64 T.r6, .float .f64 T.r7, .float .f64 T.r8, .float .f64 T.r9, .float .f64 T.r10, .float .f64 T.r11, .int .i64 T.ro, .float .f64 T.r13] _ (rng_bel hR9 hb) Try.underlying43 rfl (by kernel_rfl) ?_; exact hK.out _ _ rfl (bl_refl _)
       ·cases hrd
       ·cases hrd
       ·cases ho
        have e7 : s 7 = _ := hs 7 (by decide) rfl (by kernel_rfl)
        simp only [e7] at hK ⊢
        simp only [Act.put, List.setIfInBounds_toArray, List.set_cons_zero, List.set_cons_succ] at hK
        clear hs
        refine wp_load_mid (P := Try.prog) 45 _ rfl _ _ rfl [.float .f64 (S ((Q1 k).ra.toNat)).sm, .float .f64 (S ((Q1 k).ra.toNat)).si, .float .f64 (S ((Q1 k).ra.toNat)).sx, .float .f64 (S ((Q1 k).ra.toNat)).sy, .float .f64 (S ((Q1 k).ra.toNat)).ss] _ (rng_bel hA9 hb) Try.underlying45 rfl (by kernel_rfl) ?_; exact hK.out _ _ rfl (bl_refl _)
       ·cases hrd
       ·cases hrd
       ·cases ho
        have e10 : s 10 = _ := hs 10 (by decide) rfl (by kernel_rfl)
        simp only [e10] at hK ⊢
        simp only [Act.put, List.setIfInBounds_toArray, List.set_cons_zero, List.set_cons_succ] at hK
        clear hs
        refine wp_load_mid (P := Try.prog) 45 _ rfl _ _ rfl [.float .f64 (S ((Q1 k).rb.toNat)).sm, .float .f64 (S ((Q1 k).rb.toNat)).si, .float .f64 (S ((Q1 k).rb.toNat)).sx, .float .f64 (S ((Q1 k).rb.toNat)).sy, .float .f64 (S ((Q1 k).rb.toNat)).ss] _ (rng_bel hB9 hb) Try.underlying45 rfl (by kernel_rfl) ?_; exact hK.out _ _ rfl (bl_refl _)
       ·cases ho
        have e5 : s 5 = _ := hs 5 (by decide) rfl (by kernel_rfl)
        have e8 : s 8 = _ := hs 8 (by decide) rfl (by kernel_rfl)
        have e11 : s 11 = _ := hs 11 (by decide) rfl (by kernel_rfl)
        simp only [e5, e8, e11] at hK ⊢
        simp only [Act.put, List.setIfInBounds_toArray, List.set_cons_zero, List.set_cons_succ] at hK
        clear hs
        go_simp
        all_goals (try go_wp2_with (first | (go_at_call 18; (with_reducible refine (hone _).mono ?_); rintro e w' ⟨A, B, q1, q2, rfl, hb1⟩)))
        all_goals first | exact hK.out _ _ ⟨A, B, q1, q2, rfl⟩ hb1 | with_reducible exact hK.out _ _ rfl (bl_refl _) | exact hK.out _ _ rfl (bl_refl _)
       ·cases hrd
       ·cases hrd
       ·cases hrd
       ·cases hrd
       ·cases hrd
       ·cases hrd
       ·cases hso
       ·cases hrd
       ·cases hso
       ·cases hrd
       ·cases hso
      case hp_kba =>
       intro i o hi ho hso hrd s hs W K hK
       rcases (show i = 0 ∨ i = 1 ∨ i = 2 ∨ i = 3 ∨ i = 4 ∨ i = 5 ∨ i = 6 ∨ i = 7 ∨ i = 8 ∨ i = 9 ∨ i = 10 ∨ i = 11 ∨ i = 12 ∨ i = 13 ∨ i = 14 ∨ i = 15 ∨ i = 16 ∨ i = 17 ∨ i = 18 ∨ i = 19 ∨ i = 20 ∨ i = 21 ∨ i = 22 ∨ i = 23 by omega) with rfl | rfl | rfl | rfl | rfl | rfl | rfl | rfl | rfl | rfl | rfl | rfl | rfl | rfl | rfl | rfl | rfl | rfl | rfl | rfl | rfl | rfl | rfl | rfl
       rotate_left 4
       cases ho
       have e3 : s 3 = _ := hs 3 (by decide) rfl (by kernel_rfl)
       simp only [e3] at hK ⊢
       rotate_left 1
       ·cases hrd
       rotate_left 1
       cases ho
       have e6 : s 6 = _ := hs 6 (by decide) rfl (by kernel_rfl)
       simp only [e6] at hK ⊢
       rotate_left 1
       ·cases hrd
       rotate_left 1
       cases ho
       have e9 : s 9 = _ := hs 9 (by decide) rfl (by kernel_rfl)
       simp only [e9] at hK ⊢
       rotate_left 1
       ·cases hrd
       ·cases hrd
       ·cases ho
        obtain ⟨A, B, q1, q2, e12⟩ := hs 12 (by decide) rfl (by kernel_rfl)
        simp only [e12] at hK ⊢
        simp only [Act.put, List.setIfInBounds_toArray, List.set_cons_zero, List.set_cons_succ] at hK
        clear hs
        go_simp
        all_goals first | exact hK.out _ ⟨A, B, q1, q2, rfl⟩ | with_reducible exact hK.out _ rfl | exact hK.out _ rfl
       cases ho
       obtain ⟨A, B, q1, q2, e13⟩ := hs 13 (by decide) rfl (by kernel_rfl)
       simp only [e13] at hK ⊢
       rotate_left 1
       ·cases ho
        obtain ⟨A, B, q1, q2, e13⟩ := hs 13 (by decide) rfl (by kernel_rfl)
        simp only [e13] at hK ⊢
        simp only [Act.put, List.setIfInBounds_toArray, List.set_cons_zero, List.set_cons_succ] at hK
        clear hs
        go_simp
        all_goals first | exact hK.out _ ⟨A, q1, rfl⟩ | with_reducible exact hK.out _ rfl | exact hK.out _ rfl
       ·cases ho
        obtain ⟨A, B, q1, q2, e13⟩ := hs 13 (by decide) rfl (by kernel_rfl)
        simp only [e13] at hK ⊢
        simp only [Act.put, List.setIfInBounds_toArray, List.set_cons_zero, List.set_cons_succ] at hK
        clear hs
        go_simp
        all_goals first | exact hK.out _ ⟨B, q2, rfl⟩ | with_reducible exact hK.out _ rfl | exact hK.out _ rfl
       cases ho
       obtain ⟨A, B, q1, q2, e13⟩ := hs 13 (by decide) rfl (by kernel_rfl)
       simp only [e13] at hK ⊢
       rotate_left 1
       cases ho
       have e0 : s 0 = _ := hs 0 (by decide) rfl (by kernel_rfl)
       simp only [e0] at hK ⊢
       rotate_left 1
       ·cases hso
       cases ho
       have e1 : s 1 = _ := hs 1 (by decide) rfl (by kernel_rfl)
       simp only [e1] at hK ⊢
       rotate_left 1
       ·cases hso
       cases ho
       have e2 : s 2 = _ := hs 2 (by decide) rfl (by kernel_rfl)
       simp only [e2] at hK ⊢
       rotate_left 1
       ·cases hso
       all_goals
        try cases ho
        simp only [Act.put, List.setIfInBounds_toArray, List.set_cons_zero, List.set_cons_succ] at hK
        clear hs
        go_simp
        all_goals first | with_reducible exact hK.out _ rfl | exact hK.out _ rfl
      case hst_kba =>
       intro i o b q d hi ho hso s hs W hb K hK
       rcases (show i = 0 ∨ i = 1 ∨ i = 2 ∨ i = 3 ∨ i = 4 ∨ i = 5 ∨ i = 6 ∨ i = 7 ∨ i = 8 ∨ i = 9 ∨ i = 10 ∨ i = 11 ∨ i = 12 ∨ i = 13 ∨ i = 14 ∨ i = 15 ∨ i = 16 ∨ i = 17 ∨ i = 18 ∨ i = 19 ∨ i = 20 ∨ i = 21 ∨ i = 22 ∨ i = 23 by omega) with rfl | rfl | rfl | rfl | rfl | rfl | rfl | rfl | rfl | rfl | rfl | rfl | rfl | rfl | rfl | rfl | rfl | rfl | rfl | rfl | rfl | rfl | rfl | rfl
       ·cases hso
       ·cases hso
       ·cases hso
       ·cases hso
       ·cases hso
       ·cases hso
       ·cases hso
       ·cases hso
       ·cases hso
       ·cases hso
       ·cases hso
       ·cases hso
       ·cases hso
       ·cases hso
       ·cases hso
       ·cases hso
       ·cases hso
       ·cases hso
       ·cases hso
       ·cases ho
        cases hso
        have e14 : s 14 = _ := hs 14 (by decide) rfl (by kernel_rfl)
        have e18 : s 18 = _ := hs 18 (by decide) rfl (by kernel_rfl)
        simp only [e14, e18] at hK ⊢
        have hth := there_sub (hb.thr _ _ _ hthR9) hlR
        refine wp_store_mid (P := Try.prog) 43 _ _ rfl (gr) (k * 14) #[.int .i64 QO.ra, .int .i64 QO.rb, .float .f64 QO.r2, .float .f64 QO.r3, .float .f64 QO.r4, .float .f64 QO.r5, .float .f64 QO.r6, .float .f64 QO.r7, .float .f64 QO.r8, .float .f64 QO.r9, .float .f64 QO.r10, .float .f64 QO.r11, .int .i64 QO.ro, .float .f64 QO.r13] rfl rfl hth (by kernel_rfl) (by kernel_rfl) ?_
        exact hK.out [.int .i64 QO.ra, .int .i64 QO.rb, .float .f64 QO.r2, .float .f64 QO.r3, .float .f64 QO.r4, .float .f64 QO.r5, .float .f64 QO.r6, .float .f64 QO.r7, .float .f64 QO.r8, .float .f64 QO.r9, .float .f64 QO.r10, .float .f64 QO.r11, .int .i64 QO.ro, .float .f64 QO.r13] (.inl rfl) rfl hth
       ·cases hso
       ·cases ho
        cases hso
        obtain ⟨A3, q3, e15⟩ := hs 15 (by decide) rfl (by kernel_rfl)
        have e20 : s 20 = _ := hs 20 (by decide) rfl (by kernel_rfl)
        simp only [e15, e20] at hK ⊢
        have hth := there_sub (hb.thr _ _ _ hthS9) hlA
        refine wp_store_mid (P := Try.prog) 45 _ _ rfl (gs) ((Q1 k).ra.toNat * 5) #[.float .f64 A3.sm, .float .f64 A3.si, .float .f64 A3.sx, .float .f64 A3.sy, .float .f64 A3.ss] rfl rfl hth (by kernel_rfl) (by kernel_rfl) ?_
        exact hK.out [.float .f64 A3.sm, .float .f64 A3.si, .float .f64 A3.sx, .float .f64 A3.sy, .float .f64 A3.ss] (.inl rfl) rfl hth
       ·cases hso
       ·cases ho
        cases hso
        obtain ⟨B3, q4, e16⟩ := hs 16 (by decide) rfl (by kernel_rfl)
        have e22 : s 22 = _ := hs 22 (by decide) rfl (by kernel_rfl)
        simp only [e16, e22] at hK ⊢
        have hth := there_sub (hb.thr _ _ _ hthS9) hlB
        refine wp_store_mid (P := Try.prog) 45 _ _ rfl (gs) ((Q1 k).rb.toNat * 5) #[.float .f64 B3.sm, .float .f64 B3.si, .float .f64 B3.sx, .float .f64 B3.sy, .float .f64 B3.ss] rfl rfl hth (by kernel_rfl) (by kernel_rfl) ?_
        exact hK.out [.float .f64 B3.sm, .float .f64 B3.si, .float .f64 B3.sx, .float .f64 B3.sy, .float .f64 B3.ss] (.inl rfl) rfl hth
      case ht_kba =>
       intro s hs W hfx hout hin
       have e0 : s 0 = _ := hs 0 (by decide) rfl
       have e1 : s 1 = _ := hs 1 (by decide) rfl
       have e2 : s 2 = _ := hs 2 (by decide) rfl
       have e3 : s 3 = _ := hs 3 (by decide) rfl
       have e4 : s 4 = _ := hs 4 (by decide) rfl
       have e5 : s 5 = _ := hs 5 (by decide) rfl
       have e6 : s 6 = _ := hs 6 (by decide) rfl
       have e7 : s 7 = _ := hs 7 (by decide) rfl
       have e8 : s 8 = _ := hs 8 (by decide) rfl
       have e9 : s 9 = _ := hs 9 (by decide) rfl
       have e10 : s 10 = _ := hs 10 (by decide) rfl
       have e11 : s 11 = _ := hs 11 (by decide) rfl
       obtain ⟨A, B, q1, q2, e12⟩ := hs 12 (by decide) rfl
       obtain ⟨A, B, q1, q2, e13⟩ := hs 13 (by decide) rfl
       have e14 : s 14 = _ := hs 14 (by decide) rfl
       obtain ⟨A3, q3, e15⟩ := hs 15 (by decide) rfl
       obtain ⟨B3, q4, e16⟩ := hs 16 (by decide) rfl
       have e17 : s 17 = _ := hs 17 (by decide) rfl
       have e18 : s 18 = _ := hs 18 (by decide) rfl
       have e20 : s 20 = _ := hs 20 (by decide) rfl
       have e22 : s 22 = _ := hs 22 (by decide) rfl
       simp only [e0, e1, e2, e3, e4, e5, e6, e7, e8, e9, e10, e11, e12, e13, e14, e15, e16, e17, e18, e20, e22]
       obtain ⟨cs0, g01, g02, g03⟩ := hin 19 _ _ _ rfl
       obtain ⟨cs1, g1, g2, g3⟩ := hin 21 _ _ _ rfl
       obtain ⟨cs2, g4, g5, g6⟩ := hin 23 _ _ _ rfl
       rw [e14] at g01
       rw [e15] at g1
       rw [e16] at g4
       have i0 := cellsV_agg (l := [.int .i64 QO.ra, .int .i64 QO.rb, .float .f64 QO.r2, .float .f64 QO.r3, .float .f64 QO.r4, .float .f64 QO.r5, .float .f64 QO.r6, .float .f64 QO.r7, .float .f64 QO.r8, .float .f64 QO.r9, .float .f64 QO.r10, .float .f64 QO.r11, .int .i64 QO.ro, .float .f64 QO.r13]) g01 (by rw [g02]; decide)
       have i1 := cellsV_agg (l := [.float .f64 A3.sm, .float .f64 A3.si, .float .f64 A3.sx, .float .f64 A3.sy, .float .f64 A3.ss]) g1 (by rw [g2]; decide)
       have i2 := cellsV_agg (l := [.float .f64 B3.sm, .float .f64 B3.si, .float .f64 B3.sx, .float .f64 B3.sy, .float .f64 B3.ss]) g4 (by rw [g5]; decide)
       subst i0 i1 i2
       clear hs hin g01 g02 g1 g2 g4 g5 e0 e1 e2 e3 e4 e5 e6 e7 e8 e9 e10 e11 e12 e13 e14 e15 e16 e17 e18 e20 e22
       have hR10 := rws_one (T := QO) hRW9 g03 (fun q n1 => hout gr q hgr9 (by rintro ⟨j, o, d, h1, h2, h3, h4⟩; dsimp only at h1 h4; split at h1; (cases h1; exact n1 ⟨h3, h4⟩); (injection h1 with h1; injection h1 with h1; exact hne9 h1.symm); (injection h1 with h1; injection h1 with h1; exact hne9 h1.symm); cases h1))
       have hS10 := sts_two (a' := A3) (b' := B3) hSt9 g3 g6 (fun q n1 n2 => hout gs q hgs9 (by rintro ⟨j, o, d, h1, h2, h3, h4⟩; dsimp only at h1 h4; split at h1; (injection h1 with h1; injection h1 with h1; exact hne9 h1); (cases h1; exact n1 ⟨h3, h4⟩); (cases h1; exact n2 ⟨h3, h4⟩); cases h1))
       have hRel10 := rel_two (A := (Q1 k).ra.toNat) (B := (Q1 k).rb.toNat) hRel q3 q4
       rw [setF_two] at hR10
       repeat (first | go_step3 | go_values | go_skip | go_guarded | go_step | go_upon | go_back | dsimp only)
       simp only [go_sem]
       go_at_K
       repeat (first | go_step3 | go_values | go_skip | go_guarded | go_step | go_upon | go_back | dsimp only)
       refine ⟨⟨k + 1, by omega, by go_num, (hFF.trans (Fx.of_bel hbw8)).trans hfx, ?_, ?_⟩, by simp [intOf]; omega⟩
       ·(try rw [en]); exact ⟨hfx.thr _ _ _ hthR9, by rw [onR_mv hmv, eQO]; exact hR10⟩
       ·(try rw [en]); exact ⟨hfx.thr _ _ _ hthS9, _, hS10, by rw [(onAB_mv hmv).1, (onAB_mv hmv).2, eXO, eYO]; exact hRel10⟩

   ·have eT1 : T = Q1 k := by rw [← eT]; unfold toR; rw [if_neg ho]
    have hRk7 : W5.rangeAt gr (k * 14) [.int .i64 T.ra, .int .i64 T.rb, .float .f64 T.r2, .float .f64 T.r3, .float .f64 T.r4, .float .f64 T.r5, .float .f64 T.r6, .float .f64 T.r7, .float .f64 T.r8, .float .f64 T.r9, .float .f64 T.r10, .float .f64 T.r11, .int .i64 T.ro, .float .f64 T.r13] := by rw [eT1]; exact hRk
    have hRW7 : Rws W5 gr 0 rn (setF Q1 k T) := by rw [eT1, setF_self]; exact hRW
    clear eT1
    have hSt7 := hSt
    have hA7 : W5.rangeAt gs ((Q1 k).ra.toNat * 5) [.float .f64 (S ((Q1 k).ra.toNat)).sm, .float .f64 (S ((Q1 k).ra.toNat)).si, .float .f64 (S ((Q1 k).ra.toNat)).sx, .float .f64 (S ((Q1 k).ra.toNat)).sy, .float .f64 (S ((Q1 k).ra.toNat)).ss] := by have h := hSt _ hAn; rwa [Nat.zero_add] at h
    have hB7 : W5.rangeAt gs ((Q1 k).rb.toNat * 5) [.float .f64 (S ((Q1 k).rb.toNat)).sm, .float .f64 (S ((Q1 k).rb.toNat)).si, .float .f64 (S ((Q1 k).rb.toNat)).sx, .float .f64 (S ((Q1 k).rb.toNat)).sy, .float .f64 (S ((Q1 k).rb.toNat)).ss] := by have h := hSt _ hBn; rwa [Nat.zero_add] at h
    have hthR7 := hthR
    have hthS7 := hthS
    have hFF := hFF5
    cases hva : mvB (S ((Q1 k).ra.toNat))
    ·cases hvb : mvB (S ((Q1 k).rb.toNat))
     ·repeat (first | ((with_reducible show Oper.wp _ ⟨_, Op.load 45 _, _, _, _, _⟩ _ _ _ _); refine wp_load_mid (P := Try.prog) 45 _ rfl _ _ rfl [.float .f64 (S ((Q1 k).ra.toNat)).sm, .float .f64 (S ((Q1 k).ra.toNat)).si, .float .f64 (S ((Q1 k).ra.toNat)).sx, .float .f64 (S ((Q1 k).ra.toNat)).sy, .float .f64 (S ((Q1 k).ra.toNat)).ss] _ hA7 Try.underlying45 rfl (by kernel_rfl) ?_; simp only [go_sem]) | ((with_reducible show wpList _ _ _ (⟨_, Op.load 45 _, _, _, _, some _⟩ :: _) _ _); refine wpList_gload (by kernel_rfl) 45 _ rfl (gs) ((Q1 k).rb.toNat * 5) rfl [.float .f64 (S ((Q1 k).rb.toNat)).sm, .float .f64 (S ((Q1 k).rb.toNat)).si, .float .f64 (S ((Q1 k).rb.toNat)).sx, .float .f64 (S ((Q1 k).rb.toNat)).sy, .float .f64 (S ((Q1 k).rb.toNat)).ss] _ (rng_bel hB7 hbw8) Try.underlying45 rfl (by kernel_rfl) ?_; simp only [go_sem]) | (go_at_call 119; (with_reducible refine (canMove_w (S ((Q1 k).ra.toNat)) _).mono ?_); rintro e w8 ⟨rfl, hbw8⟩; rw [hva]) | (go_at_call 119; (with_reducible refine (canMove_w (S ((Q1 k).rb.toNat)) _).mono ?_); rintro e w9 ⟨rfl, hbw9⟩; rw [hvb]) | go_step3 | go_values | go_skip | go_guarded | go_step | go_upon | go_back | dsimp only)
      have bel9 := bl_trans hbw8 hbw9
      have hmv : (mvB (M1 ((Q1 k).ra.toNat)) || mvB (M1 ((Q1 k).rb.toNat))) = false := by rw [← (hRel _ hAn).mv, ← (hRel _ hBn).mv, hva, hvb]; rfl
      simp only [go_sem]
      go_at_K
      repeat (first | go_step3 | go_values | go_skip | go_guarded | go_step | go_upon | go_back | dsimp only)
      refine ⟨⟨k + 1, by omega, by go_num, hFF.trans (Fx.of_bel bel9), ?_, ?_⟩, by simp [intOf]; omega⟩
      ·(try rw [en]); exact ⟨bel_there hthR7 bel9, by rw [onR_no hmv]; exact hRW7.bel bel9⟩
      ·(try rw [en]); exact ⟨bel_there hthS7 bel9, S, hSt7.bel bel9, by rw [(onAB_no hmv).1, (onAB_no hmv).2, setF_self, setF_self]; exact hRel⟩
     ·repeat (first | ((with_reducible show Oper.wp _ ⟨_, Op.load 45 _, _, _, _, _⟩ _ _ _ _); refine wp_load_mid (P := Try.prog) 45 _ rfl _ _ rfl [.float .f64 (S ((Q1 k).ra.toNat)).sm, .float .f64 (S ((Q1 k).ra.toNat)).si, .float .f64 (S ((Q1 k).ra.toNat)).sx, .float .f64 (S ((Q1 k).ra.toNat)).sy, .float .f64 (S ((Q1 k).ra.toNat)).ss] _ hA7 Try.underlying45 rfl (by kernel_rfl) ?_; simp only [go_sem]) | ((with_reducible show wpList _ _ _ (⟨_, Op.load 45 _, _, _, _, some _⟩ :: _) _ _); refine wpList_gload (by kernel_rfl) 45 _ rfl (gs) ((Q1 k).rb.toNat * 5) rfl [.float .f64 (S ((Q1 k).rb.toNat)).sm, .float .f64 (S ((Q1 k).rb.toNat)).si, .float .f64 (S ((Q1 k).rb.toNat)).sx, .float .f64 (S ((Q1 k).rb.toNat)).sy, .float .f64 (S ((Q1 k).rb.toNat)).ss] _ (rng_bel hB7 hbw8) Try.underlying45 rfl (by kernel_rfl) ?_; simp only [go_sem]) | (go_at_call 119; (with_reducible refine (canMove_w (S ((Q1 k).ra.toNat)) _).mono ?_); rintro e w8 ⟨rfl, hbw8⟩; rw [hva]) | (go_at_call 119; (with_reducible refine (canMove_w (S ((Q1 k).rb.toNat)) _).mono ?_); rintro e w9 ⟨rfl, hbw9⟩; rw [hvb]) | go_step3 | go_values | go_skip | go_guarded | go_step | go_upon | go_back | dsimp only)
      have bel9 := bl_trans hbw8 hbw9
      have hmv : (mvB (M1 ((Q1 k).ra.toNat)) || mvB (M1 ((Q1 k).rb.toNat))) = true := by rw [← (hRel _ hAn).mv, ← (hRel _ hBn).mv, hva, hvb]; rfl
      have hR9 : w9.rangeAt gr (k * 14) [.int .i64 T.ra, .int .i64 T.rb, .float .f64 T.r2, .float .f64 T.r3, .float .f64 T.r4, .float .f64 T.r5, .float .f64 T.r6, .float .f64 T.r7, .float .f64 T.r8, .float .f64 T.r9, .float .f64 T.r10, .float .f64 T.r11, .int .i64 T.ro, .float .f64 T.r13] := rng_bel hRk7 bel9
      have hA9 : w9.rangeAt gs ((Q1 k).ra.toNat * 5) [.float .f64 (S ((Q1 k).ra.toNat)).sm, .float .f64 (S ((Q1 k).ra.toNat)).si, .float .f64 (S ((Q1 k).ra.toNat)).sx, .float .f64 (S ((Q1 k).ra.toNat)).sy, .float .f64 (S ((Q1 k).ra.toNat)).ss] := rng_bel hA7 bel9
      have hB9 : w9.rangeAt gs ((Q1 k).rb.toNat * 5) [.float .f64 (S ((Q1 k).rb.toNat)).sm, .float .f64 (S ((Q1 k).rb.toNat)).si, .float .f64 (S ((Q1 k).rb.toNat)).sx, .float .f64 (S ((Q1 k).rb.toNat)).sy, .float .f64 (S ((Q1 k).rb.toNat)).ss] := rng_bel hB7 bel9
      have hRW9 := hRW7.bel bel9
      have hSt9 := hSt7.bel bel9
      have hthR9 := bel_there hthR7 bel9
      have hthS9 := bel_there hthS7 bel9
      have hgr9 : gr < w9.heap.size := rws_lt hRW9 hlt
      have hgs9 : gs < w9.heap.size := sts_lt hSt9 hAn
      refine wp_region_knot 24 rfl (fun i v => match i with | 0 => v = .pointer (some ⟨gr, k * 14, none⟩) | 1 => v = .pointer (some ⟨gs, (Q1 k).ra.toNat * 5, none⟩) | 2 => v = .pointer (some ⟨gs, (Q1 k).rb.toNat * 5, none⟩) | 3 => v = .pointer (some ⟨gr, k * 14, none⟩) | 4 => v = .pointer (some ⟨gr, k * 14, none⟩) | 5 => v = .agg #[.int .i64 T.ra, .int .i64 T.rb, .float .f64 T.r2, .float .f64 T.r3, .float .f64 T.r4, .float .f64 T.r5, .float .f64 T.r6, .float .f64 T.r7, .float .f64 T.r8, .float .f64 T.r9, .float .f64 T.r10, .float .f64 T.r11, .int .i64 T.ro, .float .f64 T.r13] | 6 => v = .pointer (some ⟨gs, (Q1 k).ra.toNat * 5, none⟩) | 7 => v = .pointer (some ⟨gs, (Q1 k).ra.toNat * 5, none⟩) | 8 => v = .agg #[.float .f64 (S ((Q1 k).ra.toNat)).sm, .float .f64 (S ((Q1 k).ra.toNat)).si, .float .f64 (S ((Q1 k).ra.toNat)).sx, .float .f64 (S ((Q1 k).ra.toNat)).sy, .float .f64 (S ((Q1 k).ra.toNat)).ss] | 9 => v = .pointer (some ⟨gs, (Q1 k).rb.toNat * 5, none⟩) | 10 => v = .pointer (some ⟨gs, (Q1 k).rb.toNat * 5, none⟩) | 11 => v = .agg #[.float .f64 (S ((Q1 k).rb.toNat)).sm, .float .f64 (S ((Q1 k).rb.toNat)).si, .float .f64 (S ((Q1 k).rb.toNat)).sx, .float .f64 (S ((Q1 k).rb.toNat)).sy, .float .f64 (S ((Q1 k).rb.toNat)).ss] | 12 => ∃ A B : SD, RelS A XO ∧ RelS B YO ∧ v = .tuple #[.agg #[.int .i64 QO.ra, .int .i64 QO.rb, .float .f64 QO.r2, .float .f64 QO.r3, .float .f64 QO.r4, .float .f64 QO.r5, .float .f64 QO.r6, .float .f64 QO.r7, .float .f64 QO.r8, .float .f64 QO.r9, .float .f64 QO.r10, .float .f64 QO.r11, .int .i64 QO.ro, .float .f64 QO.r13], .agg #[.float .f64 A.sm, .float .f64 A.si, .float .f64 A.sx, .float .f64 A.sy, .float .f64 A.ss], .agg #[.float .f64 B.sm, .float .f64 B.si, .float .f64 B.sx, .float .f64 B.sy, .float .f64 B.ss], .int .i64 0] | 13 => ∃ A B : SD, RelS A XO ∧ RelS B YO ∧ v = .tuple #[.agg #[.int .i64 QO.ra, .int .i64 QO.rb, .float .f64 QO.r2, .float .f64 QO.r3, .float .f64 QO.r4, .float .f64 QO.r5, .float .f64 QO.r6, .float .f64 QO.r7, .float .f64 QO.r8, .float .f64 QO.r9, .float .f64 QO.r10, .float .f64 QO.r11, .int .i64 QO.ro, .float .f64 QO.r13], .agg #[.float .f64 A.sm, .float .f64 A.si, .float .f64 A.sx, .float .f64 A.sy, .float .f64 A.ss], .agg #[.float .f64 B.sm, .float .f64 B.si, .float .f64 B.sx, .float .f64 B.sy, .float .f64 B.ss], .int .i64 0] | 14 => v = .agg #[.int .i64 QO.ra, .int .i64 QO.rb, .float .f64 QO.r2, .float .f64 QO.r3, .float .f64 QO.r4, .float .f64 QO.r5, .float .f64 QO.r6, .float .f64 QO.r7, .float .f64 QO.r8, .float .f64 QO.r9, .float .f64 QO.r10, .float .f64 QO.r11, .int .i64 QO.ro, .float .f64 QO.r13] | 15 => ∃ A : SD, RelS A XO ∧ v = .agg #[.float .f64 A.sm, .float .f64 A.si, .float .f64 A.sx, .float .f64 A.sy, .float .f64 A.ss] | 16 => ∃ B : SD, RelS B YO ∧ v = .agg #[.float .f64 B.sm, .float .f64 B.si, .float .f64 B.sx, .float .f64 B.sy, .float .f64 B.ss] | 17 => v = .int .i64 0 | 18 => v = .pointer (some ⟨gr, k * 14, none⟩) | 20 => v = .pointer (some ⟨gs, (Q1 k).ra.toNat * 5, none⟩) | 22 => v = .pointer (some ⟨gs, (Q1 k).rb.toNat * 5, none⟩) | _ => False) (fun i => match i with | 5 => true | 8 => true | 11 => true | 12 => true | _ => false) (fun i => match i with | 19 => some (gr, k * 14, 14) | 21 => some (gs, (Q1 k).ra.toNat * 5, 15) | 23 => some (gs, (Q1 k).rb.toNat * 5, 16) | _ => none) (fun i => match i with | 19 => 14 | 21 => 5 | 23 => 5 | _ => 0) [gr, gs] 4 ?A_kab (by kernel_rfl) (by kernel_rfl) ?hA_kab ?hpre_kab ?hdep_kab ?hne_kab ?hq_kab ?hp_kab ?hst_kab ?ht_kab
      case hA_kab =>
       intro s
       simp only [putL, dstO, Act.put, List.getElem?_toArray, List.getElem?_cons_zero, List.getElem?_cons_succ, Option.bind_some, List.setIfInBounds_toArray, List.set_cons_zero, List.set_cons_succ, if_true]
       all_goals exact rfl
      case hpre_kab =>
       intro i j b o d hi hr hso
       have hj : j = 19 ∨ j = 21 ∨ j = 23 := by
        split at hso
        all_goals first | omega | (cases hso; done)
       rcases (show i = 0 ∨ i = 1 ∨ i = 2 ∨ i = 3 ∨ i = 4 ∨ i = 5 ∨ i = 6 ∨ i = 7 ∨ i = 8 ∨ i = 9 ∨ i = 10 ∨ i = 11 ∨ i = 12 ∨ i = 13 ∨ i = 14 ∨ i = 15 ∨ i = 16 ∨ i = 17 ∨ i = 18 ∨ i = 19 ∨ i = 20 ∨ i = 21 ∨ i = 22 ∨ i = 23 by omega) with rfl | rfl | rfl | rfl | rfl | rfl | rfl | rfl | rfl | rfl | rfl | rfl | rfl | rfl | rfl | rfl | rfl | rfl | rfl | rfl | rfl | rfl | rfl | rfl
       all_goals first
        | (cases hr; done)
        | (rcases hj with rfl | rfl | rfl <;> (show rch _ _ _ _ = true) <;> kernel_rfl)
      case hdep_kab =>
       intro i b o d hso
       split at hso
       all_goals first | (cases hso; done) | (cases hso; exact ⟨by decide, rfl, by simp, by decide, rfl, by kernel_rfl⟩)
      case hne_kab =>
       intro i j b o d o' d' hij h1 h2
       split at h1
       all_goals (try (cases h1; done))
       all_goals split at h2
       all_goals (try (cases h2; done))
       all_goals (cases h1; cases h2; first | (exact absurd rfl hij) | (exact absurd rfl hne9) | (exact absurd rfl hne9.symm) | (simp only []; omega) | omega)
      case hq_kab =>
       intro i o hi ho hso hrd s hs W hb K hK
       rcases (show i = 0 ∨ i = 1 ∨ i = 2 ∨ i = 3 ∨ i = 4 ∨ i = 5 ∨ i = 6 ∨ i = 7 ∨ i = 8 ∨ i = 9 ∨ i = 10 ∨ i = 11 ∨ i = 12 ∨ i = 13 ∨ i = 14 ∨ i = 15 ∨ i = 16 ∨ i = 17 ∨ i = 18 ∨ i = 19 ∨ i = 20 ∨ i = 21 ∨ i = 22 ∨ i = 23 by omega) with rfl | rfl | rfl | rfl | rfl | rfl | rfl | rfl | rfl | rfl | rfl | rfl | rfl | rfl | rfl | rfl | rfl | rfl | rfl | rfl | rfl | rfl | rfl | rfl
       ·cases hrd
       ·cases hrd
       ·cases hrd
       ·cases hrd
       ·cases hrd
       ·cases ho
        have e4 : s 4 = _ := hs 4 (by decide) rfl (by kernel_rfl)
        simp only [e4] at hK ⊢
        simp only [Act.put, List.setIfInBounds_toArray, List.set_cons_zero, List.set_cons_succ] at hK
        clear hs
        refine wp_load_mid (P := Try.prog) 43 _ rfl _ _ rfl [.int .i64 T.ra, .int .i64 T.rb, .float .f64 T.r2, .float .f64 T.r3, .float .f64 T.r4, .float .f64 T.r5, .float .f64 T.r6, .float .f64 T.r7, .float .f64 T.r8, .float .f64 T.r9, .float .f64 T.r10, .float .f64 T.r11, .int .i64 T.ro, .float .f64 T.r13] _ (rng_bel hR9 hb) Try.underlying43 rfl (by kernel_rfl) ?_; exact hK.out _ _ rfl (bl_refl _)
       ·cases hrd
       ·cases hrd
       ·cases ho
        have e7 : s 7 = _ := hs 7 (by decide) rfl (by kernel_rfl)
        simp only [e7] at hK ⊢
        simp only [Act.put, List.setIfInBounds_toArray, List.set_cons_zero, List.set_cons_succ] at hK
        clear hs
        refine wp_load_mid (P := Try.prog) 45 _ rfl _ _ rfl [.float .f64 (S ((Q1 k).ra.toNat)).sm, .float .f64 (S ((Q1 k).ra.toNat)).si, .float .f64 (S ((Q1 k).ra.toNat)).sx, .float .f64 (S ((Q1 k).ra.toNat)).sy, .float .f64 (S ((Q1 k).ra.toNat)).ss] _ (rng_bel hA9 hb) Try.underlying45 rfl (by kernel_rfl) ?_; exact hK.out _ _ rfl (bl_refl _)
       ·cases hrd
       ·cases hrd
       ·cases ho
        have e10 : s 10 = _ := hs 10 (by decide) rfl (by kernel_rfl)
        simp only [e10] at hK ⊢
        simp only [Act.put, List.setIfInBounds_toArray, List.set_cons_zero, List.set_cons_succ] at hK
        clear hs
        refine wp_load_mid (P := Try.prog) 45 _ rfl _ _ rfl [.float .f64 (S ((Q1 k).rb.toNat)).sm, .float .f64 (S ((Q1 k).rb.toNat)).si, .float .f64 (S ((Q1 k).rb.toNat)).sx, .float .f64 (S ((Q1 k).rb.toNat)).sy, .float .f64 (S ((Q1 k).rb.toNat)).ss] _ (rng_bel hB9 hb) Try.underlying45 rfl (by kernel_rfl) ?_; exact hK.out _ _ rfl (bl_refl _)
       ·cases ho
        have e5 : s 5 = _ := hs 5 (by decide) rfl (by kernel_rfl)
        have e8 : s 8 = _ := hs 8 (by decide) rfl (by kernel_rfl)
        have e11 : s 11 = _ := hs 11 (by decide) rfl (by kernel_rfl)
        simp only [e5, e8, e11] at hK ⊢
        simp only [Act.put, List.setIfInBounds_toArray, List.set_cons_zero, List.set_cons_succ] at hK
        clear hs
        go_simp
        all_goals (try go_wp2_with (first | (go_at_call 18; (with_reducible refine (hone _).mono ?_); rintro e w' ⟨A, B, q1, q2, rfl, hb1⟩)))
        all_goals first | exact hK.out _ _ ⟨A, B, q1, q2, rfl⟩ hb1 | with_reducible exact hK.out _ _ rfl (bl_refl _) | exact hK.out _ _ rfl (bl_refl _)
       ·cases hrd
       ·cases hrd
       ·cases hrd
       ·cases hrd
       ·cases hrd
       ·cases hrd
       ·cases hso
       ·cases hrd
       ·cases hso
       ·cases hrd
       ·cases hso
      case hp_kab =>
       intro i o hi ho hso hrd s hs W K hK
       rcases (show i = 0 ∨ i = 1 ∨ i = 2 ∨ i = 3 ∨ i = 4 ∨ i = 5 ∨ i = 6 ∨ i = 7 ∨ i = 8 ∨ i = 9 ∨ i = 10 ∨ i = 11 ∨ i = 12 ∨ i = 13 ∨ i = 14 ∨ i = 15 ∨ i = 16 ∨ i = 17 ∨ i = 18 ∨ i = 19 ∨ i = 20 ∨ i = 21 ∨ i = 22 ∨ i = 23 by omega) with rfl | rfl | rfl | rfl | rfl | rfl | rfl | rfl | rfl | rfl | rfl | rfl | rfl | rfl | rfl | rfl | rfl | rfl | rfl | rfl | rfl | rfl | rfl | rfl
       rotate_left 4
       cases ho
       have e3 : s 3 = _ := hs 3 (by decide) rfl (by kernel_rfl)
       simp only [e3] at hK ⊢
       rotate_left 1
       ·cases hrd
       rotate_left 1
       cases ho
       have e6 : s 6 = _ := hs 6 (by decide) rfl (by kernel_rfl)
       simp only [e6] at hK ⊢
       rotate_left 1
       ·cases hrd
       rotate_left 1
       cases ho
       have e9 : s 9 = _ := hs 9 (by decide) rfl (by kernel_rfl)
       simp only [e9] at hK ⊢
       rotate_left 1
       ·cases hrd
       ·cases hrd
       ·cases ho
        obtain ⟨A, B, q1, q2, e12⟩ := hs 12 (by decide) rfl (by kernel_rfl)
        simp only [e12] at hK ⊢
        simp only [Act.put, List.setIfInBounds_toArray, List.set_cons_zero, List.set_cons_succ] at hK
        clear hs
        go_simp
        all_goals first | exact hK.out _ ⟨A, B, q1, q2, rfl⟩ | with_reducible exact hK.out _ rfl | exact hK.out _ rfl
       cases ho
       obtain ⟨A, B, q1, q2, e13⟩ := hs 13 (by decide) rfl (by kernel_rfl)
       simp only [e13] at hK ⊢
       rotate_left 1
       ·cases ho
        obtain ⟨A, B, q1, q2, e13⟩ := hs 13 (by decide) rfl (by kernel_rfl)
        simp only [e13] at hK ⊢
        simp only [Act.put, List.setIfInBounds_toArray, List.set_cons_zero, List.set_cons_succ] at hK
        clear hs
        go_simp
        all_goals first | exact hK.out _ ⟨A, q1, rfl⟩ | with_reducible exact hK.out _ rfl | exact hK.out _ rfl
       ·cases ho
        obtain ⟨A, B, q1, q2, e13⟩ := hs 13 (by decide) rfl (by kernel_rfl)
        simp only [e13] at hK ⊢
        simp only [Act.put, List.setIfInBounds_toArray, List.set_cons_zero, List.set_cons_succ] at hK
        clear hs
        go_simp
        all_goals first | exact hK.out _ ⟨B, q2, rfl⟩ | with_reducible exact hK.out _ rfl | exact hK.out _ rfl
       cases ho
       obtain ⟨A, B, q1, q2, e13⟩ := hs 13 (by decide) rfl (by kernel_rfl)
       simp only [e13] at hK ⊢
       rotate_left 1
       cases ho
       have e0 : s 0 = _ := hs 0 (by decide) rfl (by kernel_rfl)
       simp only [e0] at hK ⊢
       rotate_left 1
       ·cases hso
       cases ho
       have e1 : s 1 = _ := hs 1 (by decide) rfl (by kernel_rfl)
       simp only [e1] at hK ⊢
       rotate_left 1
       ·cases hso
       cases ho
       have e2 : s 2 = _ := hs 2 (by decide) rfl (by kernel_rfl)
       simp only [e2] at hK ⊢
       rotate_left 1
       ·cases hso
       all_goals
        try cases ho
        simp only [Act.put, List.setIfInBounds_toArray, List.set_cons_zero, List.set_cons_succ] at hK
        clear hs
        go_simp
        all_goals first | with_reducible exact hK.out _ rfl | exact hK.out _ rfl
      case hst_kab =>
       intro i o b q d hi ho hso s hs W hb K hK
       rcases (show i = 0 ∨ i = 1 ∨ i = 2 ∨ i = 3 ∨ i = 4 ∨ i = 5 ∨ i = 6 ∨ i = 7 ∨ i = 8 ∨ i = 9 ∨ i = 10 ∨ i = 11 ∨ i = 12 ∨ i = 13 ∨ i = 14 ∨ i = 15 ∨ i = 16 ∨ i = 17 ∨ i = 18 ∨ i = 19 ∨ i = 20 ∨ i = 21 ∨ i = 22 ∨ i = 23 by omega) with rfl | rfl | rfl | rfl | rfl | rfl | rfl | rfl | rfl | rfl | rfl | rfl | rfl | rfl | rfl | rfl | rfl | rfl | rfl | rfl | rfl | rfl | rfl | rfl
       ·cases hso
       ·cases hso
       ·cases hso
       ·cases hso
       ·cases hso
       ·cases hso
       ·cases hso
       ·cases hso
       ·cases hso
       ·cases hso
       ·cases hso
       ·cases hso
       ·cases hso
       ·cases hso
       ·cases hso
       ·cases hso
       ·cases hso
       ·cases hso
       ·cases hso
       ·cases ho
        cases hso
        have e14 : s 14 = _ := hs 14 (by decide) rfl (by kernel_rfl)
        have e18 : s 18 = _ := hs 18 (by decide) rfl (by kernel_rfl)
        simp only [e14, e18] at hK ⊢
        have hth := there_sub (hb.thr _ _ _ hthR9) hlR
        refine wp_store_mid (P := Try.prog) 43 _ _ rfl (gr) (k * 14) #[.int .i64 QO.ra, .int .i64 QO.rb, .float .f64 QO.r2, .float .f64 QO.r3, .float .f64 QO.r4, .float .f64 QO.r5, .float .f64 QO.r6, .float .f64 QO.r7, .float .f64 QO.r8, .float .f64 QO.r9, .float .f64 QO.r10, .float .f64 QO.r11, .int .i64 QO.ro, .float .f64 QO.r13] rfl rfl hth (by kernel_rfl) (by kernel_rfl) ?_
        exact hK.out [.int .i64 QO.ra, .int .i64 QO.rb, .float .f64 QO.r2, .float .f64 QO.r3, .float .f64 QO.r4, .float .f64 QO.r5, .float .f64 QO.r6, .float .f64 QO.r7, .float .f64 QO.r8, .float .f64 QO.r9, .float .f64 QO.r10, .float .f64 QO.r11, .int .i64 QO.ro, .float .f64 QO.r13] (.inl rfl) rfl hth
       ·cases hso
       ·cases ho
        cases hso
        obtain ⟨A3, q3, e15⟩ := hs 15 (by decide) rfl (by kernel_rfl)
        have e20 : s 20 = _ := hs 20 (by decide) rfl (by kernel_rfl)
        simp only [e15, e20] at hK ⊢
        have hth := there_sub (hb.thr _ _ _ hthS9) hlA
        refine wp_store_mid (P := Try.prog) 45 _ _ rfl (gs) ((Q1 k).ra.toNat * 5) #[.float .f64 A3.sm, .float .f64 A3.si, .float .f64 A3.sx, .float .f64 A3.sy, .float .f64 A3.ss] rfl rfl hth (by kernel_rfl) (by kernel_rfl) ?_
        exact hK.out [.float .f64 A3.sm, .float .f64 A3.si, .float .f64 A3.sx, .float .f64 A3.sy, .float .f64 A3.ss] (.inl rfl) rfl hth
       ·cases hso
       ·cases ho
        cases hso
        obtain ⟨B3, q4, e16⟩ := hs 16 (by decide) rfl (by kernel_rfl)
        have e22 : s 22 = _ := hs 22 (by decide) rfl (by kernel_rfl)
        simp only [e16, e22] at hK ⊢
        have hth := there_sub (hb.thr _ _ _ hthS9) hlB
        refine wp_store_mid (P := Try.prog) 45 _ _ rfl (gs) ((Q1 k).rb.toNat * 5) #[.float .f64 B3.sm, .float .f64 B3.si, .float .f64 B3.sx, .float .f64 B3.sy, .float .f64 B3.ss] rfl rfl hth (by kernel_rfl) (by kernel_rfl) ?_
        exact hK.out [.float .f64 B3.sm, .float .f64 B3.si, .float .f64 B3.sx, .float .f64 B3.sy, .float .f64 B3.ss] (.inl rfl) rfl hth
      case ht_kab =>
       intro s hs W hfx hout hin
       have e0 : s 0 = _ := hs 0 (by decide) rfl
       have e1 : s 1 = _ := hs 1 (by decide) rfl
       have e2 : s 2 = _ := hs 2 (by decide) rfl
       have e3 : s 3 = _ := hs 3 (by decide) rfl
       have e4 : s 4 = _ := hs 4 (by decide) rfl
       have e5 : s 5 = _ := hs 5 (by decide) rfl
       have e6 : s 6 = _ := hs 6 (by decide) rfl
       have e7 : s 7 = _ := hs 7 (by decide) rfl
       have e8 : s 8 = _ := hs 8 (by decide) rfl
       have e9 : s 9 = _ := hs 9 (by decide) rfl
       have e10 : s 10 = _ := hs 10 (by decide) rfl
       have e11 : s 11 = _ := hs 11 (by decide) rfl
       obtain ⟨A, B, q1, q2, e12⟩ := hs 12 (by decide) rfl
       obtain ⟨A, B, q1, q2, e13⟩ := hs 13 (by decide) rfl
       have e14 : s 14 = _ := hs 14 (by decide) rfl
       obtain ⟨A3, q3, e15⟩ := hs 15 (by decide) rfl
       obtain ⟨B3, q4, e16⟩ := hs 16 (by decide) rfl
       have e17 : s 17 = _ := hs 17 (by decide) rfl
       have e18 : s 18 = _ := hs 18 (by decide) rfl
       have e20 : s 20 = _ := hs 20 (by decide) rfl
       have e22 : s 22 = _ := hs 22 (by decide) rfl
       simp only [e0, e1, e2, e3, e4, e5, e6, e7, e8, e9, e10, e11, e12, e13, e14, e15, e16, e17, e18, e20, e22]
       obtain ⟨cs0, g01, g02, g03⟩ := hin 19 _ _ _ rfl
       obtain ⟨cs1, g1, g2, g3⟩ := hin 21 _ _ _ rfl
       obtain ⟨cs2, g4, g5, g6⟩ := hin 23 _ _ _ rfl
       rw [e14] at g01
       rw [e15] at g1
       rw [e16] at g4
       have i0 := cellsV_agg (l := [.int .i64 QO.ra, .int .i64 QO.rb, .float .f64 QO.r2, .float .f64 QO.r3, .float .f64 QO.r4, .float .f64 QO.r5, .float .f64 QO.r6, .float .f64 QO.r7, .float .f64 QO.r8, .float .f64 QO.r9, .float .f64 QO.r10, .float .f64 QO.r11, .int .i64 QO.ro, .float .f64 QO.r13]) g01 (by rw [g02]; decide)
       have i1 := cellsV_agg (l := [.float .f64 A3.sm, .float .f64 A3.si, .float .f64 A3.sx, .float .f64 A3.sy, .float .f64 A3.ss]) g1 (by rw [g2]; decide)
       have i2 := cellsV_agg (l := [.float .f64 B3.sm, .float .f64 B3.si, .float .f64 B3.sx, .float .f64 B3.sy, .float .f64 B3.ss]) g4 (by rw [g5]; decide)
       subst i0 i1 i2
       clear hs hin g01 g02 g1 g2 g4 g5 e0 e1 e2 e3 e4 e5 e6 e7 e8 e9 e10 e11 e12 e13 e14 e15 e16 e17 e18 e20 e22
       have hR10 := rws_one (T := QO) hRW9 g03 (fun q n1 => hout gr q hgr9 (by rintro ⟨j, o, d, h1, h2, h3, h4⟩; dsimp only at h1 h4; split at h1; (cases h1; exact n1 ⟨h3, h4⟩); (injection h1 with h1; injection h1 with h1; exact hne9 h1.symm); (injection h1 with h1; injection h1 with h1; exact hne9 h1.symm); cases h1))
       have hS10 := sts_two (a' := A3) (b' := B3) hSt9 g3 g6 (fun q n1 n2 => hout gs q hgs9 (by rintro ⟨j, o, d, h1, h2, h3, h4⟩; dsimp only at h1 h4; split at h1; (injection h1 with h1; injection h1 with h1; exact hne9 h1); (cases h1; exact n1 ⟨h3, h4⟩); (cases h1; exact n2 ⟨h3, h4⟩); cases h1))
       have hRel10 := rel_two (A := (Q1 k).ra.toNat) (B := (Q1 k).rb.toNat) hRel q3 q4
       rw [setF_two] at hR10
       repeat (first | go_step3 | go_values | go_skip | go_guarded | go_step | go_upon | go_back | dsimp only)
       simp only [go_sem]
       go_at_K
       repeat (first | go_step3 | go_values | go_skip | go_guarded | go_step | go_upon | go_back | dsimp only)
       refine ⟨⟨k + 1, by omega, by go_num, (hFF.trans (Fx.of_bel bel9)).trans hfx, ?_, ?_⟩, by simp [intOf]; omega⟩
       ·(try rw [en]); exact ⟨hfx.thr _ _ _ hthR9, by rw [onR_mv hmv, eQO]; exact hR10⟩
       ·(try rw [en]); exact ⟨hfx.thr _ _ _ hthS9, _, hS10, by rw [(onAB_mv hmv).1, (onAB_mv hmv).2, eXO, eYO]; exact hRel10⟩
    ·repeat (first | ((with_reducible show Oper.wp _ ⟨_, Op.load 45 _, _, _, _, _⟩ _ _ _ _); refine wp_load_mid (P := Try.prog) 45 _ rfl _ _ rfl [.float .f64 (S ((Q1 k).ra.toNat)).sm, .float .f64 (S ((Q1 k).ra.toNat)).si, .float .f64 (S ((Q1 k).ra.toNat)).sx, .float .f64 (S ((Q1 k).ra.toNat)).sy, .float .f64 (S ((Q1 k).ra.toNat)).ss] _ hA7 Try.underlying45 rfl (by kernel_rfl) ?_; simp only [go_sem]) | ((with_reducible show wpList _ _ _ (⟨_, Op.load 45 _, _, _, _, some _⟩ :: _) _ _); refine wpList_gload (by kernel_rfl) 45 _ rfl (gs) ((Q1 k).rb.toNat * 5) rfl [.float .f64 (S ((Q1 k).rb.toNat)).sm, .float .f64 (S ((Q1 k).rb.toNat)).si, .float .f64 (S ((Q1 k).rb.toNat)).sx, .float .f64 (S ((Q1 k).rb.toNat)).sy, .float .f64 (S ((Q1 k).rb.toNat)).ss] _ (rng_bel hB7 hbw8) Try.underlying45 rfl (by kernel_rfl) ?_; simp only [go_sem]) | (go_at_call 119; (with_reducible refine (canMove_w (S ((Q1 k).ra.toNat)) _).mono ?_); rintro e w8 ⟨rfl, hbw8⟩; rw [hva]) | go_step3 | go_values | go_skip | go_guarded | go_step | go_upon | go_back | dsimp only)
     have hmv : (mvB (M1 ((Q1 k).ra.toNat)) || mvB (M1 ((Q1 k).rb.toNat))) = true := by rw [← (hRel _ hAn).mv, hva]; rfl
     have hR9 : w8.rangeAt gr (k * 14) [.int .i64 T.ra, .int .i64 T.rb, .float .f64 T.r2, .float .f64 T.r3, .float .f64 T.r4, .float .f64 T.r5, .float .f64 T.r6, .float .f64 T.r7, .float .f64 T.r8, .float .f64 T.r9, .float .f64 T.r10, .float .f64 T.r11, .int .i64 T.ro, .float .f64 T.r13] := rng_bel hRk7 hbw8
     have hA9 : w8.rangeAt gs ((Q1 k).ra.toNat * 5) [.float .f64 (S ((Q1 k).ra.toNat)).sm, .float .f64 (S ((Q1 k).ra.toNat)).si, .float .f64 (S ((Q1 k).ra.toNat)).sx, .float .f64 (S ((Q1 k).ra.toNat)).sy, .float .f64 (S ((Q1 k).ra.toNat)).ss] := rng_bel hA7 hbw8
     have hB9 : w8.rangeAt gs ((Q1 k).rb.toNat * 5) [.float .f64 (S ((Q1 k).rb.toNat)).sm, .float .f64 (S ((Q1 k).rb.toNat)).si, .float .f64 (S ((Q1 k).rb.toNat)).sx, .float .f64 (S ((Q1 k).rb.toNat)).sy, .float .f64 (S ((Q1 k).rb.toNat)).ss] := rng_bel hB7 hbw8
     have hRW9 := hRW7.bel hbw8
     have hSt9 := hSt7.bel hbw8
     have hthR9 := bel_there hthR7 hbw8
     have hthS9 := bel_there hthS7 hbw8
     have hgr9 : gr < w8.heap.size := rws_lt hRW9 hlt
     have hgs9 : gs < w8.heap.size := sts_lt hSt9 hAn
     refine wp_region_knot 24 rfl (fun i v => match i with | 0 => v = .pointer (some ⟨gr, k * 14, none⟩) | 1 => v = .pointer (some ⟨gs, (Q1 k).ra.toNat * 5, none⟩) | 2 => v = .pointer (some ⟨gs, (Q1 k).rb.toNat * 5, none⟩) | 3 => v = .pointer (some ⟨gr, k * 14, none⟩) | 4 => v = .pointer (some ⟨gr, k * 14, none⟩) | 5 => v = .agg #[.int .i64 T.ra, .int .i64 T.rb, .float .f64 T.r2, .float .f64 T.r3, .float .f64 T.r4, .float .f64 T.r5, .float .f64 T.r6, .float .f64 T.r7, .float .f64 T.r8, .float .f64 T.r9, .float .f64 T.r10, .float .f64 T.r11, .int .i64 T.ro, .float .f64 T.r13] | 6 => v = .pointer (some ⟨gs, (Q1 k).ra.toNat * 5, none⟩) | 7 => v = .pointer (some ⟨gs, (Q1 k).ra.toNat * 5, none⟩) | 8 => v = .agg #[.float .f64 (S ((Q1 k).ra.toNat)).sm, .float .f64 (S ((Q1 k).ra.toNat)).si, .float .f64 (S ((Q1 k).ra.toNat)).sx, .float .f64 (S ((Q1 k).ra.toNat)).sy, .float .f64 (S ((Q1 k).ra.toNat)).ss] | 9 => v = .pointer (some ⟨gs, (Q1 k).rb.toNat * 5, none⟩) | 10 => v = .pointer (some ⟨gs, (Q1 k).rb.toNat * 5, none⟩) | 11 => v = .agg #[.float .f64 (S ((Q1 k).rb.toNat)).sm, .float .f64 (S ((Q1 k).rb.toNat)).si, .float .f64 (S ((Q1 k).rb.toNat)).sx, .float .f64 (S ((Q1 k).rb.toNat)).sy, .float .f64 (S ((Q1 k).rb.toNat)).ss] | 12 => ∃ A B : SD, RelS A XO ∧ RelS B YO ∧ v = .tuple #[.agg #[.int .i64 QO.ra, .int .i64 QO.rb, .float .f64 QO.r2, .float .f64 QO.r3, .float .f64 QO.r4, .float .f64 QO.r5, .float .f64 QO.r6, .float .f64 QO.r7, .float .f64 QO.r8, .float .f64 QO.r9, .float .f64 QO.r10, .float .f64 QO.r11, .int .i64 QO.ro, .float .f64 QO.r13], .agg #[.float .f64 A.sm, .float .f64 A.si, .float .f64 A.sx, .float .f64 A.sy, .float .f64 A.ss], .agg #[.float .f64 B.sm, .float .f64 B.si, .float .f64 B.sx, .float .f64 B.sy, .float .f64 B.ss], .int .i64 0] | 13 => ∃ A B : SD, RelS A XO ∧ RelS B YO ∧ v = .tuple #[.agg #[.int .i64 QO.ra, .int .i64 QO.rb, .float .f64 QO.r2, .float .f64 QO.r3, .float .f64 QO.r4, .float .f64 QO.r5, .float .f64 QO.r6, .float .f64 QO.r7, .float .f64 QO.r8, .float .f64 QO.r9, .float .f64 QO.r10, .float .f64 QO.r11, .int .i64 QO.ro, .float .f64 QO.r13], .agg #[.float .f64 A.sm, .float .f64 A.si, .float .f64 A.sx, .float .f64 A.sy, .float .f64 A.ss], .agg #[.float .f64 B.sm, .float .f64 B.si, .float .f64 B.sx, .float .f64 B.sy, .float .f64 B.ss], .int .i64 0] | 14 => v = .agg #[.int .i64 QO.ra, .int .i64 QO.rb, .float .f64 QO.r2, .float .f64 QO.r3, .float .f64 QO.r4, .float .f64 QO.r5, .float .f64 QO.r6, .float .f64 QO.r7, .float .f64 QO.r8, .float .f64 QO.r9, .float .f64 QO.r10, .float .f64 QO.r11, .int .i64 QO.ro, .float .f64 QO.r13] | 15 => ∃ A : SD, RelS A XO ∧ v = .agg #[.float .f64 A.sm, .float .f64 A.si, .float .f64 A.sx, .float .f64 A.sy, .float .f64 A.ss] | 16 => ∃ B : SD, RelS B YO ∧ v = .agg #[.float .f64 B.sm, .float .f64 B.si, .float .f64 B.sx, .float .f64 B.sy, .float .f64 B.ss] | 17 => v = .int .i64 0 | 18 => v = .pointer (some ⟨gr, k * 14, none⟩) | 20 => v = .pointer (some ⟨gs, (Q1 k).ra.toNat * 5, none⟩) | 22 => v = .pointer (some ⟨gs, (Q1 k).rb.toNat * 5, none⟩) | _ => False) (fun i => match i with | 5 => true | 8 => true | 11 => true | 12 => true | _ => false) (fun i => match i with | 19 => some (gr, k * 14, 14) | 21 => some (gs, (Q1 k).ra.toNat * 5, 15) | 23 => some (gs, (Q1 k).rb.toNat * 5, 16) | _ => none) (fun i => match i with | 19 => 14 | 21 => 5 | 23 => 5 | _ => 0) [gr, gs] 4 ?A_kbb (by kernel_rfl) (by kernel_rfl) ?hA_kbb ?hpre_kbb ?hdep_kbb ?hne_kbb ?hq_kbb ?hp_kbb ?hst_kbb ?ht_kbb
     case hA_kbb =>
      intro s
      simp only [putL, dstO, Act.put, List.getElem?_toArray, List.getElem?_cons_zero, List.getElem?_cons_succ, Option.bind_some, List.setIfInBounds_toArray, List.set_cons_zero, List.set_cons_succ, if_true]
      all_goals exact rfl
     case hpre_kbb =>
      intro i j b o d hi hr hso
      have hj : j = 19 ∨ j = 21 ∨ j = 23 := by
       split at hso
       all_goals first | omega | (cases hso; done)
      rcases (show i = 0 ∨ i = 1 ∨ i = 2 ∨ i = 3 ∨ i = 4 ∨ i = 5 ∨ i = 6 ∨ i = 7 ∨ i = 8 ∨ i = 9 ∨ i = 10 ∨ i = 11 ∨ i = 12 ∨ i = 13 ∨ i = 14 ∨ i = 15 ∨ i = 16 ∨ i = 17 ∨ i = 18 ∨ i = 19 ∨ i = 20 ∨ i = 21 ∨ i = 22 ∨ i = 23 by omega) with rfl | rfl | rfl | rfl | rfl | rfl | rfl | rfl | rfl | rfl | rfl | rfl | rfl | rfl | rfl | rfl | rfl | rfl | rfl | rfl | rfl | rfl | rfl | rfl
      all_goals first
       | (cases hr; done)
       | (rcases hj with rfl | rfl | rfl <;> (show rch _ _ _ _ = true) <;> kernel_rfl)
     case hdep_kbb =>
      intro i b o d hso
      split at hso
      all_goals first | (cases hso; done) | (cases hso; exact ⟨by decide, rfl, by simp, by decide, rfl, by kernel_rfl⟩)
     case hne_kbb =>
      intro i j b o d o' d' hij h1 h2
      split at h1
      all_goals (try (cases h1; done))
      all_goals split at h2
      all_goals (try (cases h2; done))
      all_goals (cases h1; cases h2; first | (exact absurd rfl hij) | (exact absurd rfl hne9) | (exact absurd rfl hne9.symm) | (simp only []; omega) | omega)
     case hq_kbb =>
      intro i o hi ho hso hrd s hs W hb K hK
      rcases (show i = 0 ∨ i = 1 ∨ i = 2 ∨ i = 3 ∨ i = 4 ∨ i = 5 ∨ i = 6 ∨ i = 7 ∨ i = 8 ∨ i = 9 ∨ i = 10 ∨ i = 11 ∨ i = 12 ∨ i = 13 ∨ i = 14 ∨ i = 15 ∨ i = 16 ∨ i = 17 ∨ i = 18 ∨ i = 19 ∨ i = 20 ∨ i = 21 ∨ i = 22 ∨ i = 23 by omega) with rfl | rfl | rfl | rfl | rfl | rfl | rfl | rfl | rfl | rfl | rfl | rfl | rfl | rfl | rfl | rfl | rfl | rfl | rfl | rfl | rfl | rfl | rfl | rfl
      ·cases hrd
      ·cases hrd
      ·cases hrd
      ·cases hrd
      ·cases hrd
      ·cases ho
       have e4 : s 4 = _ := hs 4 (by decide) rfl (by kernel_rfl)
       simp only [e4] at hK ⊢
       simp only [Act.put, List.setIfInBounds_toArray, List.set_cons_zero, List.set_cons_succ] at hK
       clear hs
       refine wp_load_mid (P := Try.prog) 43 _ rfl _ _ rfl [.int .i64 T.ra, .int .i64 T.rb, .float .f64 T.r2, .float .f64 T.r3, .float .f64 T.r4, .float .f64 T.r5, .float .f64 T.r6, .float .f64 T.r7, .float .f64 T.r8, .float .f64 T.r9, .float .f64 T.r10, .float .f64 T.r11, .int .i64 T.ro, .float .f64 T.r13] _ (rng_bel hR9 hb) Try.underlying43 rfl (by kernel_rfl) ?_; exact hK.out _ _ rfl (bl_refl _)
      ·cases hrd
      ·cases hrd
      ·cases ho
       have e7 : s 7 = _ := hs 7 (by decide) rfl (by kernel_rfl)
       simp only [e7] at hK ⊢
       simp only [Act.put, List.setIfInBounds_toArray, List.set_cons_zero, List.set_cons_succ] at hK
       clear hs
       refine wp_load_mid (P := Try.prog) 45 _ rfl _ _ rfl [.float .f64 (S ((Q1 k).ra.toNat)).sm, .float .f64 (S ((Q1 k).ra.toNat)).si, .float .f64 (S ((Q1 k).ra.toNat)).sx, .float .f64 (S ((Q1 k).ra.toNat)).sy, .float .f64 (S ((Q1 k).ra.toNat)).ss] _ (rng_bel hA9 hb) Try.underlying45 rfl (by kernel_rfl) ?_; exact hK.out _ _ rfl (bl_refl _)
      ·cases hrd
      ·cases hrd
      ·cases ho
       have e10 : s 10 = _ := hs 10 (by decide) rfl (by kernel_rfl)
       simp only [e10] at hK ⊢
       simp only [Act.put, List.setIfInBounds_toArray, List.set_cons_zero, List.set_cons_succ] at hK
       clear hs
       refine wp_load_mid (P := Try.prog) 45 _ rfl _ _ rfl [.float .f64 (S ((Q1 k).rb.toNat)).sm, .float .f64 (S ((Q1 k).rb.toNat)).si, .float .f64 (S ((Q1 k).rb.toNat)).sx, .float .f64 (S ((Q1 k).rb.toNat)).sy, .float .f64 (S ((Q1 k).rb.toNat)).ss] _ (rng_bel hB9 hb) Try.underlying45 rfl (by kernel_rfl) ?_; exact hK.out _ _ rfl (bl_refl _)
      ·cases ho
       have e5 : s 5 = _ := hs 5 (by decide) rfl (by kernel_rfl)
       have e8 : s 8 = _ := hs 8 (by decide) rfl (by kernel_rfl)
       have e11 : s 11 = _ := hs 11 (by decide) rfl (by kernel_rfl)
       simp only [e5, e8, e11] at hK ⊢
       simp only [Act.put, List.setIfInBounds_toArray, List.set_cons_zero, List.set_cons_succ] at hK
       clear hs
       go_simp
       all_goals (try go_wp2_with (first | (go_at_call 18; (with_reducible refine (hone _).mono ?_); rintro e w' ⟨A, B, q1, q2, rfl, hb1⟩)))
       all_goals first | exact hK.out _ _ ⟨A, B, q1, q2, rfl⟩ hb1 | with_reducible exact hK.out _ _ rfl (bl_refl _) | exact hK.out _ _ rfl (bl_refl _)
      ·cases hrd
      ·cases hrd
      ·cases hrd
      ·cases hrd
      ·cases hrd
      ·cases hrd
      ·cases hso
      ·cases hrd
      ·cases hso
      ·cases hrd
      ·cases hso
     case hp_kbb =>
      intro i o hi ho hso hrd s hs W K hK
      rcases (show i = 0 ∨ i = 1 ∨ i = 2 ∨ i = 3 ∨ i = 4 ∨ i = 5 ∨ i = 6 ∨ i = 7 ∨ i = 8 ∨ i = 9 ∨ i = 10 ∨ i = 11 ∨ i = 12 ∨ i = 13 ∨ i = 14 ∨ i = 15 ∨ i = 16 ∨ i = 17 ∨ i = 18 ∨ i = 19 ∨ i = 20 ∨ i = 21 ∨ i = 22 ∨ i = 23 by omega) with rfl | rfl | rfl | rfl | rfl | rfl | rfl | rfl | rfl | rfl | rfl | rfl | rfl | rfl | rfl | rfl | rfl | rfl | rfl | rfl | rfl | rfl | rfl | rfl
      rotate_left 4
      cases ho
      have e3 : s 3 = _ := hs 3 (by decide) rfl (by kernel_rfl)
      simp only [e3] at hK ⊢
      rotate_left 1
      ·cases hrd
      rotate_left 1
      cases ho
      have e6 : s 6 = _ := hs 6 (by decide) rfl (by kernel_rfl)
      simp only [e6] at hK ⊢
      rotate_left 1
      ·cases hrd
      rotate_left 1
      cases ho
      have e9 : s 9 = _ := hs 9 (by decide) rfl (by kernel_rfl)
      simp only [e9] at hK ⊢
      rotate_left 1
      ·cases hrd
      ·cases hrd
      ·cases ho
       obtain ⟨A, B, q1, q2, e12⟩ := hs 12 (by decide) rfl (by kernel_rfl)
       simp only [e12] at hK ⊢
       simp only [Act.put, List.setIfInBounds_toArray, List.set_cons_zero, List.set_cons_succ] at hK
       clear hs
       go_simp
       all_goals first | exact hK.out _ ⟨A, B, q1, q2, rfl⟩ | with_reducible exact hK.out _ rfl | exact hK.out _ rfl
      cases ho
      obtain ⟨A, B, q1, q2, e13⟩ := hs 13 (by decide) rfl (by kernel_rfl)
      simp only [e13] at hK ⊢
      rotate_left 1
      ·cases ho
       obtain ⟨A, B, q1, q2, e13⟩ := hs 13 (by decide) rfl (by kernel_rfl)
       simp only [e13] at hK ⊢
       simp only [Act.put, List.setIfInBounds_toArray, List.set_cons_zero, List.set_cons_succ] at hK
       clear hs
       go_simp
       all_goals first | exact hK.out _ ⟨A, q1, rfl⟩ | with_reducible exact hK.out _ rfl | exact hK.out _ rfl
      ·cases ho
       obtain ⟨A, B, q1, q2, e13⟩ := hs 13 (by decide) rfl (by kernel_rfl)
       simp only [e13] at hK ⊢
       simp only [Act.put, List.setIfInBounds_toArray, List.set_cons_zero, List.set_cons_succ] at hK
       clear hs
       go_simp
       all_goals first | exact hK.out _ ⟨B, q2, rfl⟩ | with_reducible exact hK.out _ rfl | exact hK.out _ rfl
      cases ho
      obtain ⟨A, B, q1, q2, e13⟩ := hs 13 (by decide) rfl (by kernel_rfl)
      simp only [e13] at hK ⊢
      rotate_left 1
      cases ho
      have e0 : s 0 = _ := hs 0 (by decide) rfl (by kernel_rfl)
      simp only [e0] at hK ⊢
      rotate_left 1
      ·cases hso
      cases ho
      have e1 : s 1 = _ := hs 1 (by decide) rfl (by kernel_rfl)
      simp only [e1] at hK ⊢
      rotate_left 1
      ·cases hso
      cases ho
      have e2 : s 2 = _ := hs 2 (by decide) rfl (by kernel_rfl)
      simp only [e2] at hK ⊢
      rotate_left 1
      ·cases hso
      all_goals
       try cases ho
       simp only [Act.put, List.setIfInBounds_toArray, List.set_cons_zero, List.set_cons_succ] at hK
       clear hs
       go_simp
       all_goals first | with_reducible exact hK.out _ rfl | exact hK.out _ rfl
     case hst_kbb =>
      intro i o b q d hi ho hso s hs W hb K hK
      rcases (show i = 0 ∨ i = 1 ∨ i = 2 ∨ i = 3 ∨ i = 4 ∨ i = 5 ∨ i = 6 ∨ i = 7 ∨ i = 8 ∨ i = 9 ∨ i = 10 ∨ i = 11 ∨ i = 12 ∨ i = 13 ∨ i = 14 ∨ i = 15 ∨ i = 16 ∨ i = 17 ∨ i = 18 ∨ i = 19 ∨ i = 20 ∨ i = 21 ∨ i = 22 ∨ i = 23 by omega) with rfl | rfl | rfl | rfl | rfl | rfl | rfl | rfl | rfl | rfl | rfl | rfl | rfl | rfl | rfl | rfl | rfl | rfl | rfl | rfl | rfl | rfl | rfl | rfl
      ·cases hso
      ·cases hso
      ·cases hso
      ·cases hso
      ·cases hso
      ·cases hso
      ·cases hso
      ·cases hso
      ·cases hso
      ·cases hso
      ·cases hso
      ·cases hso
      ·cases hso
      ·cases hso
      ·cases hso
      ·cases hso
      ·cases hso
      ·cases hso
      ·cases hso
      ·cases ho
       cases hso
       have e14 : s 14 = _ := hs 14 (by decide) rfl (by kernel_rfl)
       have e18 : s 18 = _ := hs 18 (by decide) rfl (by kernel_rfl)
       simp only [e14, e18] at hK ⊢
       have hth := there_sub (hb.thr _ _ _ hthR9) hlR
       refine wp_store_mid (P := Try.prog) 43 _ _ rfl (gr) (k * 14) #[.int .i64 QO.ra, .int .i64 QO.rb, .float .f64 QO.r2, .float .f64 QO.r3, .float .f64 QO.r4, .float .f64 QO.r5, .float .f64 QO.r6, .float .f64 QO.r7, .float .f64 QO.r8, .float .f64 QO.r9, .float .f64 QO.r10, .float .f64 QO.r11, .int .i64 QO.ro, .float .f64 QO.r13] rfl rfl hth (by kernel_rfl) (by kernel_rfl) ?_
       exact hK.out [.int .i64 QO.ra, .int .i64 QO.rb, .float .f64 QO.r2, .float .f64 QO.r3, .float .f64 QO.r4, .float .f64 QO.r5, .float .f64 QO.r6, .float .f64 QO.r7, .float .f64 QO.r8, .float .f64 QO.r9, .float .f64 QO.r10, .float .f64 QO.r11, .int .i64 QO.ro, .float .f64 QO.r13] (.inl rfl) rfl hth
      ·cases hso
      ·cases ho
       cases hso
       obtain ⟨A3, q3, e15⟩ := hs 15 (by decide) rfl (by kernel_rfl)
       have e20 : s 20 = _ := hs 20 (by decide) rfl (by kernel_rfl)
       simp only [e15, e20] at hK ⊢
       have hth := there_sub (hb.thr _ _ _ hthS9) hlA
       refine wp_store_mid (P := Try.prog) 45 _ _ rfl (gs) ((Q1 k).ra.toNat * 5) #[.float .f64 A3.sm, .float .f64 A3.si, .float .f64 A3.sx, .float .f64 A3.sy, .float .f64 A3.ss] rfl rfl hth (by kernel_rfl) (by kernel_rfl) ?_
       exact hK.out [.float .f64 A3.sm, .float .f64 A3.si, .float .f64 A3.sx, .float .f64 A3.sy, .float .f64 A3.ss] (.inl rfl) rfl hth
      ·cases hso
      ·cases ho
       cases hso
       obtain ⟨B3, q4, e16⟩ := hs 16 (by decide) rfl (by kernel_rfl)
       have e22 : s 22 = _ := hs 22 (by decide) rfl (by kernel_rfl)
       simp only [e16, e22] at hK ⊢
       have hth := there_sub (hb.thr _ _ _ hthS9) hlB
       refine wp_store_mid (P := Try.prog) 45 _ _ rfl (gs) ((Q1 k).rb.toNat * 5) #[.float .f64 B3.sm, .float .f64 B3.si, .float .f64 B3.sx, .float .f64 B3.sy, .float .f64 B3.ss] rfl rfl hth (by kernel_rfl) (by kernel_rfl) ?_
       exact hK.out [.float .f64 B3.sm, .float .f64 B3.si, .float .f64 B3.sx, .float .f64 B3.sy, .float .f64 B3.ss] (.inl rfl) rfl hth
     case ht_kbb =>
      intro s hs W hfx hout hin
      have e0 : s 0 = _ := hs 0 (by decide) rfl
      have e1 : s 1 = _ := hs 1 (by decide) rfl
      have e2 : s 2 = _ := hs 2 (by decide) rfl
      have e3 : s 3 = _ := hs 3 (by decide) rfl
      have e4 : s 4 = _ := hs 4 (by decide) rfl
      have e5 : s 5 = _ := hs 5 (by decide) rfl
      have e6 : s 6 = _ := hs 6 (by decide) rfl
      have e7 : s 7 = _ := hs 7 (by decide) rfl
      have e8 : s 8 = _ := hs 8 (by decide) rfl
      have e9 : s 9 = _ := hs 9 (by decide) rfl
      have e10 : s 10 = _ := hs 10 (by decide) rfl
      have e11 : s 11 = _ := hs 11 (by decide) rfl
      obtain ⟨A, B, q1, q2, e12⟩ := hs 12 (by decide) rfl
      obtain ⟨A, B, q1, q2, e13⟩ := hs 13 (by decide) rfl
      have e14 : s 14 = _ := hs 14 (by decide) rfl
      obtain ⟨A3, q3, e15⟩ := hs 15 (by decide) rfl
      obtain ⟨B3, q4, e16⟩ := hs 16 (by decide) rfl
      have e17 : s 17 = _ := hs 17 (by decide) rfl
      have e18 : s 18 = _ := hs 18 (by decide) rfl
      have e20 : s 20 = _ := hs 20 (by decide) rfl
      have e22 : s 22 = _ := hs 22 (by decide) rfl
      simp only [e0, e1, e2, e3, e4, e5, e6, e7, e8, e9, e10, e11, e12, e13, e14, e15, e16, e17, e18, e20, e22]
      obtain ⟨cs0, g01, g02, g03⟩ := hin 19 _ _ _ rfl
      obtain ⟨cs1, g1, g2, g3⟩ := hin 21 _ _ _ rfl
      obtain ⟨cs2, g4, g5, g6⟩ := hin 23 _ _ _ rfl
      rw [e14] at g01
      rw [e15] at g1
      rw [e16] at g4
      have i0 := cellsV_agg (l := [.int .i64 QO.ra, .int .i64 QO.rb, .float .f64 QO.r2, .float .f64 QO.r3, .float .f64 QO.r4, .float .f64 QO.r5, .float .f64 QO.r6, .float .f64 QO.r7, .float .f64 QO.r8, .float .f64 QO.r9, .float .f64 QO.r10, .float .f64 QO.r11, .int .i64 QO.ro, .float .f64 QO.r13]) g01 (by rw [g02]; decide)
      have i1 := cellsV_agg (l := [.float .f64 A3.sm, .float .f64 A3.si, .float .f64 A3.sx, .float .f64 A3.sy, .float .f64 A3.ss]) g1 (by rw [g2]; decide)
      have i2 := cellsV_agg (l := [.float .f64 B3.sm, .float .f64 B3.si, .float .f64 B3.sx, .float .f64 B3.sy, .float .f64 B3.ss]) g4 (by rw [g5]; decide)
      subst i0 i1 i2
      clear hs hin g01 g02 g1 g2 g4 g5 e0 e1 e2 e3 e4 e5 e6 e7 e8 e9 e10 e11 e12 e13 e14 e15 e16 e17 e18 e20 e22
      have hR10 := rws_one (T := QO) hRW9 g03 (fun q n1 => hout gr q hgr9 (by rintro ⟨j, o, d, h1, h2, h3, h4⟩; dsimp only at h1 h4; split at h1; (cases h1; exact n1 ⟨h3, h4⟩); (injection h1 with h1; injection h1 with h1; exact hne9 h1.symm); (injection h1 with h1; injection h1 with h1; exact hne9 h1.symm); cases h1))
      have hS10 := sts_two (a' := A3) (b' := B3) hSt9 g3 g6 (fun q n1 n2 => hout gs q hgs9 (by rintro ⟨j, o, d, h1, h2, h3, h4⟩; dsimp only at h1 h4; split at h1; (injection h1 with h1; injection h1 with h1; exact hne9 h1); (cases h1; exact n1 ⟨h3, h4⟩); (cases h1; exact n2 ⟨h3, h4⟩); cases h1))
      have hRel10 := rel_two (A := (Q1 k).ra.toNat) (B := (Q1 k).rb.toNat) hRel q3 q4
      rw [setF_two] at hR10
      repeat (first | go_step3 | go_values | go_skip | go_guarded | go_step | go_upon | go_back | dsimp only)
      simp only [go_sem]
      go_at_K
      repeat (first | go_step3 | go_values | go_skip | go_guarded | go_step | go_upon | go_back | dsimp only)
      refine ⟨⟨k + 1, by omega, by go_num, (hFF.trans (Fx.of_bel hbw8)).trans hfx, ?_, ?_⟩, by simp [intOf]; omega⟩
      ·(try rw [en]); exact ⟨hfx.thr _ _ _ hthR9, by rw [onR_mv hmv, eQO]; exact hR10⟩
      ·(try rw [en]); exact ⟨hfx.thr _ _ _ hthS9, _, hS10, by rw [(onAB_mv hmv).1, (onAB_mv hmv).2, eXO, eYO]; exact hRel10⟩
  ·have hkn : k = rn := by omega
   subst hkn
   repeat (first | go_step3 | go_values | go_skip | go_guarded | go_step | go_upon | go_back | dsimp only)
   refine bodyPost_end (results_none rfl _ _ _) rfl ?_
   exact ⟨hRM, hSM, (Fx.of_bel B0).trans hF, rfl⟩

end Go.Proofs.Ytfohggiehbplkaa
