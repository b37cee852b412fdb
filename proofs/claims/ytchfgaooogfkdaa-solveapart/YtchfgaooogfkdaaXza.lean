/-
  What each function of package poly answers, and what the reference of its chapter answers: one contract a function, for every float: the answer stands in the relation of its formula to what was given; of the memory that was there nothing has turned.
-/
import Derived.Test.YtchfgaooogfkdaaVec
import Derived.Test.YtchfgaooogfkdaaXz
import Derived.Below
import Derived.OwnWalk
import Derived.Laws.AppendOwn
import Derived.Lib.SliceRun
import Derived.Laws.MakeOwn
import Derived.WalkKit
import Derived.WalkLawsBesides
import Derived.WalkSpells
import Derived.ProofKit
import Derived.OpenShut
import Derived.Deep.RegionHeld3
namespace Go.Proofs.Ytchfgaooogfkdaa
open Go.ChangeShapes Go.WideShapes Go.ChangeAt Go.RowKit
set_option linter.unusedVariables false
set_option linter.unusedSimpArgs false


set_option maxRecDepth 100000 in
set_option maxHeartbeats 16000000 in
theorem sa_yes (rb ro rn rc_ : Nat) (rs : Option Addr) (Q : Nat → RD) (qb qo qn qc_ : Nat) (qs : Option Addr) (Q2 : Nat → RD) (sb so sn sc_ : Nat) (ss : Option Addr) (S : Nat → SD) (t : Nat) (w : World) (hrs : rn = 0 ∨ rs = some ⟨rb, ro, none⟩) (hrc : rn ≤ rc_) (hrm : rc_ ≤ maxLen) (hr : Rws w rb ro rn Q) (or_ : ∀ i, i < rn → rok (Q i)) (hqs : qn = 0 ∨ qs = some ⟨qb, qo, none⟩) (hqc : qn ≤ qc_) (hqm : qc_ ≤ maxLen) (hq : Rws w qb qo qn Q2) (oq_ : ∀ i, i < qn → rok (Q2 i)) (hss : sn = 0 ∨ ss = some ⟨sb, so, none⟩) (hsc : sn ≤ sc_) (hsm : sc_ ≤ maxLen) (hs : Sts w sb so sn S) (os : ∀ i, i < sn → sok (S i)) (hl1 : rn ≤ 60) (hl2 : qn ≤ 60) (hl3 : sn ≤ 60) (he : asE Q rn S sn = 0) (hg : asE Q2 qn S sn = 0) (ht : t ≤ 64) (eap : apB Q rn Q2 qn S = true) : Calls Try.prog 3 #[.slice rs rn rc_, .slice qs qn qc_, .slice ss sn sc_, .int .i64 t] w fun e w' => e = .returned (.bool true) ∧ Bel w w' := by
  have i1 : ¬ (60 : Int) < rn := by omega
  have i2 : ¬ (60 : Int) < qn := by omega
  have i3 : ¬ (60 : Int) < sn := by omega
  have t1 : Stg 1 := trivial
  have j1 : ¬ (t : Int) < 0 := by omega
  have j2 : ¬ (64 : Int) < (t : Int) := by omega
  have hof : ∀ i, i < qn → (Q2 i).ro < 1000 := fun i hi => by have := row_of (asE_zero hg).2.2.1 i hi; omega
  have hjo := jo_as he hg (by omega)
  have hjr := jo_rok or_ oq_
  have ap0 := ap_iff.1 eap
  obtain ⟨k1, k2, k3, k4, k5⟩ := it_apart (M := fun i => tlS (S i)) (fun i => tl_c _) (fun i hm => ap0 i hm) (row_of (asE_zero he).2.2.1) t
  go_enter Try.func3, Try.ntmps3
  repeat (first | (go_at_call 9; (with_reducible refine (awake21 _).mono ?_); rintro e w1 ⟨rfl, BB⟩) | (have zz := t1; clear zz t1; have t2 : Stg 2 := trivial; go_at_call 10; (with_reducible refine (apart_ok rb ro rn rc_ rs Q qb qo qn qc_ qs Q2 sb so sn sc_ ss S _ hrs hrc hrm (hr.bel BB) or_ hqs hqc hqm (hq.bel BB) oq_ hss hsc hsm (hs.bel BB) os he hg).mono ?_); rintro e w2 ⟨rfl, hb2⟩; rw [eap]; have BC := bl_trans BB hb2) | (have zz := t2; clear zz t2; have t3 : Stg 3 := trivial; go_at_call 10; (with_reducible refine (apart_ok qb qo qn qc_ qs Q2 rb ro rn rc_ rs Q sb so sn sc_ ss S _ hqs hqc hqm (hq.bel BC) oq_ hrs hrc hrm (hr.bel BC) or_ hss hsc hsm (hs.bel BC) os hg he).mono ?_); rintro e w3 ⟨rfl, hb3⟩; rw [ap_sym, eap]; have BD := bl_trans BC hb3) | (have zz := t3; clear zz t3; have t4 : Stg 4 := trivial; go_at_call 12; (with_reducible refine (joined_w rb ro rn rc_ rs Q qb qo qn qc_ qs Q2 _ hrs hrc hrm (hr.bel BD) or_ hqs hqc hqm (hq.bel BD) oq_ hl1 hl2 hof).mono ?_); rintro e w4 ⟨v4, hO4, rfl, hb4⟩; obtain ⟨jb, jc, js, rfl, hjs, hjc, hjm, hj⟩ := own_rows hO4; have BE := bl_trans BD hb4) | (have zz := t4; clear zz t4; have t5 : Stg 5 := trivial; go_at_call 11; (with_reducible refine (all_ok jb 0 (rn + qn) jc js (joQ Q rn Q2) sb so sn sc_ ss S t _ hjs hjc hjm hj hjr hss hsc hsm (hs.bel BE) os hjo ht).mono ?_); rintro e w5 ⟨vw5, uw5, hallw5, rfl, hbw5⟩; obtain ⟨grw5, rcw5, rsw5, gsw5, scw5, ssw5, rfl, rfl, p1w5, p2w5, p3w5, p4w5, p5w5, p6w5, p7w5, p8w5, p9w5, hRWw5, hSMw5⟩ := hallw5.at_; have BF := bl_trans BE hbw5) | (have zz := t5; clear zz t5; have t6 : Stg 6 := trivial; go_at_call 11; (with_reducible refine (all_ok rb ro rn rc_ rs Q sb so sn sc_ ss S t _ hrs hrc hrm (hr.bel BF) or_ hss hsc hsm (hs.bel BF) os he ht).mono ?_); rintro e w6 ⟨vw6, uw6, hallw6, rfl, hbw6⟩; obtain ⟨grw6, rcw6, rsw6, gsw6, scw6, ssw6, rfl, rfl, p1w6, p2w6, p3w6, p4w6, p5w6, p6w6, p7w6, p8w6, p9w6, hRWw6, hSMw6⟩ := hallw6.at_; have BG := bl_trans BF hbw6) | (have zz := t6; clear zz t6; have t7 : Stg 7 := trivial; go_at_call 11; (with_reducible refine (all_ok qb qo qn qc_ qs Q2 sb so sn sc_ ss S t _ hqs hqc hqm (hq.bel BG) oq_ hss hsc hsm (hs.bel BG) os hg ht).mono ?_); rintro e w7 ⟨vw7, uw7, hallw7, rfl, hbw7⟩; obtain ⟨grw7, rcw7, rsw7, gsw7, scw7, ssw7, rfl, rfl, p1w7, p2w7, p3w7, p4w7, p5w7, p6w7, p7w7, p8w7, p9w7, hRWw7, hSMw7⟩ := hallw7.at_; have BH := bl_trans BG hbw7) | go_values | go_skip | go_guarded | go_step | go_upon | go_back | dsimp only)
  obtain ⟨S5, hS5, hR5⟩ := (hSMw5.bel (bl_trans hbw6 hbw7)).at_
  obtain ⟨S6, hS6, hR6⟩ := (hSMw6.bel hbw7).at_
  obtain ⟨S7, hS7, hR7⟩ := hSMw7.at_
  rw [k1] at hR5
  dsimp only at hR5
  go_loopw [21] (fun i wr => ∃ k : Nat, k ≤ sn ∧ i = .int .i64 k ∧ Bel w7 wr) (fun i _ => sn - (intOf i).toNat)
  case atStart => exact ⟨0, by omega, rfl, bl_refl _⟩
  case round =>
    obtain ⟨k, hk, rfl, hB⟩ := hrel
    by_cases hlt : k < sn
    · have e1 : ss = some ⟨sb, so, none⟩ := by rcases hss with h | h; omega; exact h
      have e5 : ssw5 = some ⟨gsw5, 0, none⟩ := by rcases p4w5 with h | h; omega; exact h
      have e6 : ssw6 = some ⟨gsw6, 0, none⟩ := by rcases p4w6 with h | h; omega; exact h
      have e7 : ssw7 = some ⟨gsw7, 0, none⟩ := by rcases p4w7 with h | h; omega; exact h
      subst e1 e5 e6 e7
      have hkI : (k : Int) < (sn : Int) := by omega
      have hhq := has_tch (asE_zero he).2.2.1 k
      have hhp := has_tch (asE_zero hg).2.2.1 k
      have AllW : Veil (∀ X : World, Bel w7 X → X.rangeAt sb (so + k * 5) [.float .f64 (S k).sm, .float .f64 (S k).si, .float .f64 (S k).sx, .float .f64 (S k).sy, .float .f64 (S k).ss] ∧ X.rangeAt gsw5 (k * 5) [.float .f64 (S5 k).sm, .float .f64 (S5 k).si, .float .f64 (S5 k).sx, .float .f64 (S5 k).sy, .float .f64 (S5 k).ss] ∧ X.rangeAt gsw6 (k * 5) [.float .f64 (S6 k).sm, .float .f64 (S6 k).si, .float .f64 (S6 k).sx, .float .f64 (S6 k).sy, .float .f64 (S6 k).ss] ∧ X.rangeAt gsw7 (k * 5) [.float .f64 (S7 k).sm, .float .f64 (S7 k).si, .float .f64 (S7 k).sx, .float .f64 (S7 k).sy, .float .f64 (S7 k).ss]) := fun X hX => by
        have a1 := (hS5.bel hX) k hlt
        have a2 := (hS6.bel hX) k hlt
        have a3 := (hS7.bel hX) k hlt
        rw [Nat.zero_add] at a1 a2 a3
        exact ⟨((hs.bel BH).bel hX) k hlt, a1, a2, a3⟩
      have hX9 : (wr.alloc (.cells #[.float .f64 0, .float .f64 0, .float .f64 0, .float .f64 0, .float .f64 0] 35)).there wr.heap.size 0 5 := there_new wr [.float .f64 0, .float .f64 0, .float .f64 0, .float .f64 0, .float .f64 0] 35
      have hw0 : ((wr.alloc (.cells #[.float .f64 0, .float .f64 0, .float .f64 0, .float .f64 0, .float .f64 0] 35)).setCells wr.heap.size 0 [.float .f64 (S k).sm, .float .f64 (S k).si, .float .f64 (S k).sx, .float .f64 (S k).sy, .float .f64 (S k).ss]).rangeAt wr.heap.size 0 [.float .f64 (S k).sm, .float .f64 (S k).si, .float .f64 (S k).sx, .float .f64 (S k).sy, .float .f64 (S k).ss] := World.rangeAt_setCells_same _ _ _ _ hX9
      have hwt : ((wr.alloc (.cells #[.float .f64 0, .float .f64 0, .float .f64 0, .float .f64 0, .float .f64 0] 35)).setCells wr.heap.size 0 [.float .f64 (S k).sm, .float .f64 (S k).si, .float .f64 (S k).sx, .float .f64 (S k).sy, .float .f64 (S k).ss]).there wr.heap.size 0 5 := World.there_setCells hX9 _ _ _
      have hB2 : Bel w7 ((wr.alloc (.cells #[.float .f64 0, .float .f64 0, .float .f64 0, .float .f64 0, .float .f64 0] 35)).setCells wr.heap.size 0 [.float .f64 (S k).sm, .float .f64 (S k).si, .float .f64 (S k).sx, .float .f64 (S k).sy, .float .f64 (S k).ss]) := bel_setsJ _ _ (bl_alloc hB _ _) hB.size
      have hz7 := hB.size
      have f0 := (AllW.out _ hB).1
      have f1 := (AllW.out _ hB2).1
      have hp5 := hR5 k hlt
      have hp6 := hR6 k hlt
      have hp7 := hR7 k hlt
      have hpS := RelS.of (os k hlt)
      have t8 : Stg 8 := trivial
      clear hR5 hR6 hR7 hS5 hS6 hS7 k1 k2 k3 k4 hjo hjr ap0 hof
      cases hmv : mvB (S k)
      · repeat (first | ((with_reducible show Oper.wp _ { dst := _, op := Op.load 35 _, type := _, pos := _, after := _, guard := _ } _ _ _ _); refine wp_load_mid (P := Try.prog) 35 _ rfl _ _ rfl [.float .f64 (S k).sm, .float .f64 (S k).si, .float .f64 (S k).sx, .float .f64 (S k).sy, .float .f64 (S k).ss] _ (by with_reducible assumption) Try.underlying35 rfl (by kernel_rfl) ?_; simp only [go_sem]) | ((with_reducible show Oper.wp _ { dst := _, op := Op.load 35 _, type := _, pos := _, after := _, guard := _ } _ _ _ _); refine wp_load_mid (P := Try.prog) 35 _ rfl _ _ rfl [.float .f64 (S6 k).sm, .float .f64 (S6 k).si, .float .f64 (S6 k).sx, .float .f64 (S6 k).sy, .float .f64 (S6 k).ss] _ (by with_reducible assumption) Try.underlying35 rfl (by kernel_rfl) ?_; simp only [go_sem]) | ((with_reducible show Oper.wp _ { dst := _, op := Op.load 35 _, type := _, pos := _, after := _, guard := _ } _ _ _ _); refine wp_load_mid (P := Try.prog) 35 _ rfl _ _ rfl [.float .f64 (S7 k).sm, .float .f64 (S7 k).si, .float .f64 (S7 k).sx, .float .f64 (S7 k).sy, .float .f64 (S7 k).ss] _ (by with_reducible assumption) Try.underlying35 rfl (by kernel_rfl) ?_; simp only [go_sem]) | ((with_reducible show Oper.wp _ { dst := _, op := Op.store 35 _ _, type := _, pos := _, after := _, guard := _ } _ _ _ _); refine wp_store_mid (P := Try.prog) 35 _ _ rfl (wr.heap.size) (0) #[.float .f64 (S k).sm, .float .f64 (S k).si, .float .f64 (S k).sx, .float .f64 (S k).sy, .float .f64 (S k).ss] rfl rfl hX9 (by kernel_rfl) (by kernel_rfl) ?_; simp only [go_sem]; generalize ((wr.alloc (.cells #[.float .f64 0, .float .f64 0, .float .f64 0, .float .f64 0, .float .f64 0] 35)).setCells wr.heap.size 0 [.float .f64 (S k).sm, .float .f64 (S k).si, .float .f64 (S k).sx, .float .f64 (S k).sy, .float .f64 (S k).ss]) = w9 at hw0 hwt hB2 f1 ⊢) | ((with_reducible show Oper.wp _ { dst := _, op := Op.store 35 _ _, type := _, pos := _, after := _, guard := _ } _ _ _ _); refine wp_store_mid (P := Try.prog) 35 _ _ rfl (wr.heap.size) (0) #[.float .f64 (S6 k).sm, .float .f64 (S6 k).si, .float .f64 (S6 k).sx, .float .f64 (S6 k).sy, .float .f64 (S6 k).ss] rfl rfl ht3 (by kernel_rfl) (by kernel_rfl) ?_; simp only [go_sem]; have hB4 : Bel w7 (m1.setCells wr.heap.size 0 [.float .f64 (S6 k).sm, .float .f64 (S6 k).si, .float .f64 (S6 k).sx, .float .f64 (S6 k).sy, .float .f64 (S6 k).ss]) := bel_setsJ _ _ hB3 hz7; have hw4 : (m1.setCells wr.heap.size 0 [.float .f64 (S6 k).sm, .float .f64 (S6 k).si, .float .f64 (S6 k).sx, .float .f64 (S6 k).sy, .float .f64 (S6 k).ss]).rangeAt wr.heap.size 0 [.float .f64 (S6 k).sm, .float .f64 (S6 k).si, .float .f64 (S6 k).sx, .float .f64 (S6 k).sy, .float .f64 (S6 k).ss] := World.rangeAt_setCells_same _ _ _ _ ht3; generalize (m1.setCells wr.heap.size 0 [.float .f64 (S6 k).sm, .float .f64 (S6 k).si, .float .f64 (S6 k).sx, .float .f64 (S6 k).sy, .float .f64 (S6 k).ss]) = w10 at hB4 hw4 ⊢) | ((with_reducible show Oper.wp _ { dst := _, op := Op.store 35 _ _, type := _, pos := _, after := _, guard := _ } _ _ _ _); refine wp_store_mid (P := Try.prog) 35 _ _ rfl (wr.heap.size) (0) #[.float .f64 (S7 k).sm, .float .f64 (S7 k).si, .float .f64 (S7 k).sx, .float .f64 (S7 k).sy, .float .f64 (S7 k).ss] rfl rfl ht3 (by kernel_rfl) (by kernel_rfl) ?_; simp only [go_sem]; have hB4 : Bel w7 (m2.setCells wr.heap.size 0 [.float .f64 (S7 k).sm, .float .f64 (S7 k).si, .float .f64 (S7 k).sx, .float .f64 (S7 k).sy, .float .f64 (S7 k).ss]) := bel_setsJ _ _ hB3 hz7; have hw4 : (m2.setCells wr.heap.size 0 [.float .f64 (S7 k).sm, .float .f64 (S7 k).si, .float .f64 (S7 k).sx, .float .f64 (S7 k).sy, .float .f64 (S7 k).ss]).rangeAt wr.heap.size 0 [.float .f64 (S7 k).sm, .float .f64 (S7 k).si, .float .f64 (S7 k).sx, .float .f64 (S7 k).sy, .float .f64 (S7 k).ss] := World.rangeAt_setCells_same _ _ _ _ ht3; generalize (m2.setCells wr.heap.size 0 [.float .f64 (S7 k).sm, .float .f64 (S7 k).si, .float .f64 (S7 k).sx, .float .f64 (S7 k).sy, .float .f64 (S7 k).ss]) = w10 at hB4 hw4 ⊢) | (have zz := t8; clear zz t8; have t9 : Stg 9 := trivial; go_at_call 13; (with_reducible refine (lmoved21 (S k) _).mono ?_); rintro e m1 ⟨rfl, hbm1⟩; rw [hmv]; have hB3 := bl_trans hB2 hbm1; have hw3 := rng_bel hw0 hbm1; have ht3 := bel_there hwt hbm1; have f3 := (AllW.out _ hB3).1; have f6 := (AllW.out _ hB3).2.2.1; clear f0 f1 hw0 hwt) | (have zz := t9; clear zz t9; go_at_call 13; (with_reducible refine (lmoved21 (S k) _).mono ?_); rintro e m2 ⟨rfl, hbm2⟩; rw [hmv]; replace hB3 := bl_trans hB3 hbm2; replace hw3 := rng_bel hw3 hbm2; replace ht3 := bel_there ht3 hbm2; clear f3 f6; have f7 := (AllW.out _ hB3).2.2.2) | (go_at_call 14; (with_reducible refine (has21 rb ro rn rc_ rs Q (k : Int) _ hrs hrc hrm ((hr.bel BH).bel hB3) or_).mono ?_); rintro e h1 ⟨rfl, hh1⟩; rw [hhq, hh1]) | (go_at_call 14; (with_reducible refine (has21 qb qo qn qc_ qs Q2 (k : Int) _ hqs hqc hqm ((hq.bel BH).bel hB3) oq_).mono ?_); rintro e h2 ⟨rfl, hh2⟩; rw [hhp, hh2]) | go_values | go_skip | go_guarded | go_step | go_upon | go_back | dsimp only)
        have BW := hB3
        have hwant := hw3
        have hs5 := (AllW.out _ BW).2.1
        have em : mrg Q rn (fun i => tlS (S i)) (itM Q (fun i => tlS (S i)) rn t).2 (itM Q2 (fun i => tlS (S i)) qn t).2 k = tlS (S k) := by unfold mrg; rw [show mvB (tlS (S k)) = false from hmv]; rfl
        rw [em] at hp5
        have hpX := hpS
        refine wp_region_mono 7 rfl (fun i W v => match i with | 0 => v = .slice (some ⟨gsw5, 0, none⟩) sn scw5 | 1 => v = .int .i64 (k : Int) | 2 => v = .pointer (some ⟨gsw5, k * 5, none⟩) | 3 => v = .agg #[.float .f64 (S5 k).sm, .float .f64 (S5 k).si, .float .f64 (S5 k).sx, .float .f64 (S5 k).sy, .float .f64 (S5 k).ss] | 4 => v = .agg #[.float .f64 (S k).sm, .float .f64 (S k).si, .float .f64 (S k).sx, .float .f64 (S k).sy, .float .f64 (S k).ss] | 5 => v = .bool true | 6 => v = .bool false | _ => False) ?A_za (by kernel_rfl) (by kernel_rfl) ?hA_za ?hmo_za ?hq_za ?ht_za
        case hA_za =>
          intro s
          simp only [putL, dstO, Act.put, List.getElem?_toArray, List.getElem?_cons_zero, List.getElem?_cons_succ, Option.bind_some, List.setIfInBounds_toArray, List.set_cons_zero, List.set_cons_succ, if_true]
          all_goals exact rfl
        case hmo_za =>
          intro i W W' v hi hb h
          rcases (show i = 0 ∨ i = 1 ∨ i = 2 ∨ i = 3 ∨ i = 4 ∨ i = 5 ∨ i = 6 by omega) with rfl | rfl | rfl | rfl | rfl | rfl | rfl
          all_goals exact h
        case hq_za =>
          intro i o hi ho s W hs hb K hK
          rcases (show i = 0 ∨ i = 1 ∨ i = 2 ∨ i = 3 ∨ i = 4 ∨ i = 5 ∨ i = 6 by omega) with rfl | rfl | rfl | rfl | rfl | rfl | rfl
          · cases ho
            simp only [Act.put, List.setIfInBounds_toArray, List.set_cons_zero, List.set_cons_succ] at hK
            clear hs
            go_simp
            all_goals first | with_reducible exact hK.out _ _ rfl (bl_refl _) | exact hK.out _ _ rfl (bl_refl _)
          · cases ho
            simp only [Act.put, List.setIfInBounds_toArray, List.set_cons_zero, List.set_cons_succ] at hK
            clear hs
            go_simp
            all_goals first | with_reducible exact hK.out _ _ rfl (bl_refl _) | exact hK.out _ _ rfl (bl_refl _)
          · cases ho
            have e0 : s 0 = _ := hs 0 (by decide) (by kernel_rfl)
            have e1 : s 1 = _ := hs 1 (by decide) (by kernel_rfl)
            simp only [e0, e1] at hK ⊢
            simp only [Act.put, List.setIfInBounds_toArray, List.set_cons_zero, List.set_cons_succ] at hK
            clear hs
            go_simp
            all_goals first | with_reducible exact hK.out _ _ rfl (bl_refl _) | exact hK.out _ _ rfl (bl_refl _)
          · cases ho
            have e2 : s 2 = _ := hs 2 (by decide) (by kernel_rfl)
            simp only [e2] at hK ⊢
            simp only [Act.put, List.setIfInBounds_toArray, List.set_cons_zero, List.set_cons_succ] at hK
            clear hs
            refine wp_load_mid (P := Try.prog) 35 _ rfl _ _ rfl [.float .f64 (S5 k).sm, .float .f64 (S5 k).si, .float .f64 (S5 k).sx, .float .f64 (S5 k).sy, .float .f64 (S5 k).ss] _ (rng_bel hs5 hb) Try.underlying35 rfl (by kernel_rfl) ?_; exact hK.out _ _ rfl (bl_refl _)
          · cases ho
            simp only [Act.put, List.setIfInBounds_toArray, List.set_cons_zero, List.set_cons_succ] at hK
            clear hs
            refine wp_load_mid (P := Try.prog) 35 _ rfl _ _ rfl [.float .f64 (S k).sm, .float .f64 (S k).si, .float .f64 (S k).sx, .float .f64 (S k).sy, .float .f64 (S k).ss] _ (rng_bel hwant hb) Try.underlying35 rfl (by kernel_rfl) ?_; exact hK.out _ _ rfl (bl_refl _)
          · cases ho
            have e3 : s 3 = _ := hs 3 (by decide) (by kernel_rfl)
            have e4 : s 4 = _ := hs 4 (by decide) (by kernel_rfl)
            simp only [e3, e4] at hK ⊢
            simp only [Act.put, List.setIfInBounds_toArray, List.set_cons_zero, List.set_cons_succ] at hK
            clear hs
            go_simp
            all_goals (try go_wp2_with (first | (go_at_call 15; (with_reducible refine (same_rel (S5 k) (S k) _ _ hp5 hpX).mono ?_); rintro e w' ⟨rfl, hb1⟩)))
            all_goals first | exact hK.out _ _ rfl hb1 | exact hK.out _ _ rfl hb1 | with_reducible exact hK.out _ _ rfl (bl_refl _) | exact hK.out _ _ rfl (bl_refl _)
          · cases ho
            have e5 : s 5 = _ := hs 5 (by decide) (by kernel_rfl)
            simp only [e5] at hK ⊢
            simp only [Act.put, List.setIfInBounds_toArray, List.set_cons_zero, List.set_cons_succ] at hK
            clear hs
            go_simp
            all_goals first | with_reducible exact hK.out _ _ rfl (bl_refl _) | exact hK.out _ _ rfl (bl_refl _)
        case ht_za =>
          intro s W hs hb
          have e0 : s 0 = _ := hs 0 (by decide)
          have e1 : s 1 = _ := hs 1 (by decide)
          have e2 : s 2 = _ := hs 2 (by decide)
          have e3 : s 3 = _ := hs 3 (by decide)
          have e4 : s 4 = _ := hs 4 (by decide)
          have e5 : s 5 = _ := hs 5 (by decide)
          have e6 : s 6 = _ := hs 6 (by decide)
          simp only [e0, e1, e2, e3, e4, e5, e6]
          clear hs e0 e1 e2 e3 e4 e5 e6
          repeat (first | go_values | go_skip | go_guarded | go_step | go_upon | go_back | dsimp only)
          exact ⟨⟨k + 1, by omega, by go_num, bl_trans BW hb⟩, by simp [intOf]; omega⟩
      · cases htq : tchB Q rn k
        · have em : mrg Q rn (fun i => tlS (S i)) (itM Q (fun i => tlS (S i)) rn t).2 (itM Q2 (fun i => tlS (S i)) qn t).2 k = (itM Q2 (fun i => tlS (S i)) qn t).2 k := by unfold mrg; rw [show mvB (tlS (S k)) = true from hmv, htq]; rfl
          rw [em] at hp5
          rw [htq] at hhq
          cases htp : tchB Q2 qn k
          · rw [htp] at hhp
            repeat (first | ((with_reducible show Oper.wp _ { dst := _, op := Op.load 35 _, type := _, pos := _, after := _, guard := _ } _ _ _ _); refine wp_load_mid (P := Try.prog) 35 _ rfl _ _ rfl [.float .f64 (S k).sm, .float .f64 (S k).si, .float .f64 (S k).sx, .float .f64 (S k).sy, .float .f64 (S k).ss] _ (by with_reducible assumption) Try.underlying35 rfl (by kernel_rfl) ?_; simp only [go_sem]) | ((with_reducible show Oper.wp _ { dst := _, op := Op.load 35 _, type := _, pos := _, after := _, guard := _ } _ _ _ _); refine wp_load_mid (P := Try.prog) 35 _ rfl _ _ rfl [.float .f64 (S6 k).sm, .float .f64 (S6 k).si, .float .f64 (S6 k).sx, .float .f64 (S6 k).sy, .float .f64 (S6 k).ss] _ (by with_reducible assumption) Try.underlying35 rfl (by kernel_rfl) ?_; simp only [go_sem]) | ((with_reducible show Oper.wp _ { dst := _, op := Op.load 35 _, type := _, pos := _, after := _, guard := _ } _ _ _ _); refine wp_load_mid (P := Try.prog) 35 _ rfl _ _ rfl [.float .f64 (S7 k).sm, .float .f64 (S7 k).si, .float .f64 (S7 k).sx, .float .f64 (S7 k).sy, .float .f64 (S7 k).ss] _ (by with_reducible assumption) Try.underlying35 rfl (by kernel_rfl) ?_; simp only [go_sem]) | ((with_reducible show Oper.wp _ { dst := _, op := Op.store 35 _ _, type := _, pos := _, after := _, guard := _ } _ _ _ _); refine wp_store_mid (P := Try.prog) 35 _ _ rfl (wr.heap.size) (0) #[.float .f64 (S k).sm, .float .f64 (S k).si, .float .f64 (S k).sx, .float .f64 (S k).sy, .float .f64 (S k).ss] rfl rfl hX9 (by kernel_rfl) (by kernel_rfl) ?_; simp only [go_sem]; generalize ((wr.alloc (.cells #[.float .f64 0, .float .f64 0, .float .f64 0, .float .f64 0, .float .f64 0] 35)).setCells wr.heap.size 0 [.float .f64 (S k).sm, .float .f64 (S k).si, .float .f64 (S k).sx, .float .f64 (S k).sy, .float .f64 (S k).ss]) = w9 at hw0 hwt hB2 f1 ⊢) | ((with_reducible show Oper.wp _ { dst := _, op := Op.store 35 _ _, type := _, pos := _, after := _, guard := _ } _ _ _ _); refine wp_store_mid (P := Try.prog) 35 _ _ rfl (wr.heap.size) (0) #[.float .f64 (S6 k).sm, .float .f64 (S6 k).si, .float .f64 (S6 k).sx, .float .f64 (S6 k).sy, .float .f64 (S6 k).ss] rfl rfl ht3 (by kernel_rfl) (by kernel_rfl) ?_; simp only [go_sem]; have hB4 : Bel w7 (m1.setCells wr.heap.size 0 [.float .f64 (S6 k).sm, .float .f64 (S6 k).si, .float .f64 (S6 k).sx, .float .f64 (S6 k).sy, .float .f64 (S6 k).ss]) := bel_setsJ _ _ hB3 hz7; have hw4 : (m1.setCells wr.heap.size 0 [.float .f64 (S6 k).sm, .float .f64 (S6 k).si, .float .f64 (S6 k).sx, .float .f64 (S6 k).sy, .float .f64 (S6 k).ss]).rangeAt wr.heap.size 0 [.float .f64 (S6 k).sm, .float .f64 (S6 k).si, .float .f64 (S6 k).sx, .float .f64 (S6 k).sy, .float .f64 (S6 k).ss] := World.rangeAt_setCells_same _ _ _ _ ht3; generalize (m1.setCells wr.heap.size 0 [.float .f64 (S6 k).sm, .float .f64 (S6 k).si, .float .f64 (S6 k).sx, .float .f64 (S6 k).sy, .float .f64 (S6 k).ss]) = w10 at hB4 hw4 ⊢) | ((with_reducible show Oper.wp _ { dst := _, op := Op.store 35 _ _, type := _, pos := _, after := _, guard := _ } _ _ _ _); refine wp_store_mid (P := Try.prog) 35 _ _ rfl (wr.heap.size) (0) #[.float .f64 (S7 k).sm, .float .f64 (S7 k).si, .float .f64 (S7 k).sx, .float .f64 (S7 k).sy, .float .f64 (S7 k).ss] rfl rfl ht3 (by kernel_rfl) (by kernel_rfl) ?_; simp only [go_sem]; have hB4 : Bel w7 (m2.setCells wr.heap.size 0 [.float .f64 (S7 k).sm, .float .f64 (S7 k).si, .float .f64 (S7 k).sx, .float .f64 (S7 k).sy, .float .f64 (S7 k).ss]) := bel_setsJ _ _ hB3 hz7; have hw4 : (m2.setCells wr.heap.size 0 [.float .f64 (S7 k).sm, .float .f64 (S7 k).si, .float .f64 (S7 k).sx, .float .f64 (S7 k).sy, .float .f64 (S7 k).ss]).rangeAt wr.heap.size 0 [.float .f64 (S7 k).sm, .float .f64 (S7 k).si, .float .f64 (S7 k).sx, .float .f64 (S7 k).sy, .float .f64 (S7 k).ss] := World.rangeAt_setCells_same _ _ _ _ ht3; generalize (m2.setCells wr.heap.size 0 [.float .f64 (S7 k).sm, .float .f64 (S7 k).si, .float .f64 (S7 k).sx, .float .f64 (S7 k).sy, .float .f64 (S7 k).ss]) = w10 at hB4 hw4 ⊢) | (have zz := t8; clear zz t8; have t9 : Stg 9 := trivial; go_at_call 13; (with_reducible refine (lmoved21 (S k) _).mono ?_); rintro e m1 ⟨rfl, hbm1⟩; rw [hmv]; have hB3 := bl_trans hB2 hbm1; have hw3 := rng_bel hw0 hbm1; have ht3 := bel_there hwt hbm1; have f3 := (AllW.out _ hB3).1; have f6 := (AllW.out _ hB3).2.2.1; clear f0 f1 hw0 hwt) | (have zz := t9; clear zz t9; go_at_call 13; (with_reducible refine (lmoved21 (S k) _).mono ?_); rintro e m2 ⟨rfl, hbm2⟩; rw [hmv]; replace hB3 := bl_trans hB3 hbm2; replace hw3 := rng_bel hw3 hbm2; replace ht3 := bel_there ht3 hbm2; clear f3 f6; have f7 := (AllW.out _ hB3).2.2.2) | (go_at_call 14; (with_reducible refine (has21 rb ro rn rc_ rs Q (k : Int) _ hrs hrc hrm ((hr.bel BH).bel hB3) or_).mono ?_); rintro e h1 ⟨rfl, hh1⟩; rw [hhq, hh1]) | (go_at_call 14; (with_reducible refine (has21 qb qo qn qc_ qs Q2 (k : Int) _ hqs hqc hqm ((hq.bel BH).bel hB3) oq_).mono ?_); rintro e h2 ⟨rfl, hh2⟩; rw [hhp, hh2]) | go_values | go_skip | go_guarded | go_step | go_upon | go_back | dsimp only)
            have BW := hB3
            have hwant := hw3
            have hs5 := (AllW.out _ BW).2.1
            have e9 := k5.st k (.inr htp)
            rw [e9] at hp5
            have hpX := hpS
            refine wp_region_mono 7 rfl (fun i W v => match i with | 0 => v = .slice (some ⟨gsw5, 0, none⟩) sn scw5 | 1 => v = .int .i64 (k : Int) | 2 => v = .pointer (some ⟨gsw5, k * 5, none⟩) | 3 => v = .agg #[.float .f64 (S5 k).sm, .float .f64 (S5 k).si, .float .f64 (S5 k).sx, .float .f64 (S5 k).sy, .float .f64 (S5 k).ss] | 4 => v = .agg #[.float .f64 (S k).sm, .float .f64 (S k).si, .float .f64 (S k).sx, .float .f64 (S k).sy, .float .f64 (S k).ss] | 5 => v = .bool true | 6 => v = .bool false | _ => False) ?A_zb (by kernel_rfl) (by kernel_rfl) ?hA_zb ?hmo_zb ?hq_zb ?ht_zb
            case hA_zb =>
              intro s
              simp only [putL, dstO, Act.put, List.getElem?_toArray, List.getElem?_cons_zero, List.getElem?_cons_succ, Option.bind_some, List.setIfInBounds_toArray, List.set_cons_zero, List.set_cons_succ, if_true]
              all_goals exact rfl
            case hmo_zb =>
              intro i W W' v hi hb h
              rcases (show i = 0 ∨ i = 1 ∨ i = 2 ∨ i = 3 ∨ i = 4 ∨ i = 5 ∨ i = 6 by omega) with rfl | rfl | rfl | rfl | rfl | rfl | rfl
              all_goals exact h
            case hq_zb =>
              intro i o hi ho s W hs hb K hK
              rcases (show i = 0 ∨ i = 1 ∨ i = 2 ∨ i = 3 ∨ i = 4 ∨ i = 5 ∨ i = 6 by omega) with rfl | rfl | rfl | rfl | rfl | rfl | rfl
              · cases ho
                simp only [Act.put, List.setIfInBounds_toArray, List.set_cons_zero, List.set_cons_succ] at hK
                clear hs
                go_simp
                all_goals first | with_reducible exact hK.out _ _ rfl (bl_refl _) | exact hK.out _ _ rfl (bl_refl _)
              · cases ho
                simp only [Act.put, List.setIfInBounds_toArray, List.set_cons_zero, List.set_cons_succ] at hK
                clear hs
                go_simp
                all_goals first | with_reducible exact hK.out _ _ rfl (bl_refl _) | exact hK.out _ _ rfl (bl_refl _)
              · cases ho
                have e0 : s 0 = _ := hs 0 (by decide) (by kernel_rfl)
                have e1 : s 1 = _ := hs 1 (by decide) (by kernel_rfl)
                simp only [e0, e1] at hK ⊢
                simp only [Act.put, List.setIfInBounds_toArray, List.set_cons_zero, List.set_cons_succ] at hK
                clear hs
                go_simp
                all_goals first | with_reducible exact hK.out _ _ rfl (bl_refl _) | exact hK.out _ _ rfl (bl_refl _)
              · cases ho
                have e2 : s 2 = _ := hs 2 (by decide) (by kernel_rfl)
                simp only [e2] at hK ⊢
                simp only [Act.put, List.setIfInBounds_toArray, List.set_cons_zero, List.set_cons_succ] at hK
                clear hs
                refine wp_load_mid (P := Try.prog) 35 _ rfl _ _ rfl [.float .f64 (S5 k).sm, .float .f64 (S5 k).si, .float .f64 (S5 k).sx, .float .f64 (S5 k).sy, .float .f64 (S5 k).ss] _ (rng_bel hs5 hb) Try.underlying35 rfl (by kernel_rfl) ?_; exact hK.out _ _ rfl (bl_refl _)
              · cases ho
                simp only [Act.put, List.setIfInBounds_toArray, List.set_cons_zero, List.set_cons_succ] at hK
                clear hs
                refine wp_load_mid (P := Try.prog) 35 _ rfl _ _ rfl [.float .f64 (S k).sm, .float .f64 (S k).si, .float .f64 (S k).sx, .float .f64 (S k).sy, .float .f64 (S k).ss] _ (rng_bel hwant hb) Try.underlying35 rfl (by kernel_rfl) ?_; exact hK.out _ _ rfl (bl_refl _)
              · cases ho
                have e3 : s 3 = _ := hs 3 (by decide) (by kernel_rfl)
                have e4 : s 4 = _ := hs 4 (by decide) (by kernel_rfl)
                simp only [e3, e4] at hK ⊢
                simp only [Act.put, List.setIfInBounds_toArray, List.set_cons_zero, List.set_cons_succ] at hK
                clear hs
                go_simp
                all_goals (try go_wp2_with (first | (go_at_call 15; (with_reducible refine (same_rel (S5 k) (S k) _ _ hp5 hpX).mono ?_); rintro e w' ⟨rfl, hb1⟩)))
                all_goals first | exact hK.out _ _ rfl hb1 | exact hK.out _ _ rfl hb1 | with_reducible exact hK.out _ _ rfl (bl_refl _) | exact hK.out _ _ rfl (bl_refl _)
              · cases ho
                have e5 : s 5 = _ := hs 5 (by decide) (by kernel_rfl)
                simp only [e5] at hK ⊢
                simp only [Act.put, List.setIfInBounds_toArray, List.set_cons_zero, List.set_cons_succ] at hK
                clear hs
                go_simp
                all_goals first | with_reducible exact hK.out _ _ rfl (bl_refl _) | exact hK.out _ _ rfl (bl_refl _)
            case ht_zb =>
              intro s W hs hb
              have e0 : s 0 = _ := hs 0 (by decide)
              have e1 : s 1 = _ := hs 1 (by decide)
              have e2 : s 2 = _ := hs 2 (by decide)
              have e3 : s 3 = _ := hs 3 (by decide)
              have e4 : s 4 = _ := hs 4 (by decide)
              have e5 : s 5 = _ := hs 5 (by decide)
              have e6 : s 6 = _ := hs 6 (by decide)
              simp only [e0, e1, e2, e3, e4, e5, e6]
              clear hs e0 e1 e2 e3 e4 e5 e6
              repeat (first | go_values | go_skip | go_guarded | go_step | go_upon | go_back | dsimp only)
              exact ⟨⟨k + 1, by omega, by go_num, bl_trans BW hb⟩, by simp [intOf]; omega⟩
          · rw [htp] at hhp
            repeat (first | ((with_reducible show Oper.wp _ { dst := _, op := Op.load 35 _, type := _, pos := _, after := _, guard := _ } _ _ _ _); refine wp_load_mid (P := Try.prog) 35 _ rfl _ _ rfl [.float .f64 (S k).sm, .float .f64 (S k).si, .float .f64 (S k).sx, .float .f64 (S k).sy, .float .f64 (S k).ss] _ (by with_reducible assumption) Try.underlying35 rfl (by kernel_rfl) ?_; simp only [go_sem]) | ((with_reducible show Oper.wp _ { dst := _, op := Op.load 35 _, type := _, pos := _, after := _, guard := _ } _ _ _ _); refine wp_load_mid (P := Try.prog) 35 _ rfl _ _ rfl [.float .f64 (S6 k).sm, .float .f64 (S6 k).si, .float .f64 (S6 k).sx, .float .f64 (S6 k).sy, .float .f64 (S6 k).ss] _ (by with_reducible assumption) Try.underlying35 rfl (by kernel_rfl) ?_; simp only [go_sem]) | ((with_reducible show Oper.wp _ { dst := _, op := Op.load 35 _, type := _, pos := _, after := _, guard := _ } _ _ _ _); refine wp_load_mid (P := Try.prog) 35 _ rfl _ _ rfl [.float .f64 (S7 k).sm, .float .f64 (S7 k).si, .float .f64 (S7 k).sx, .float .f64 (S7 k).sy, .float .f64 (S7 k).ss] _ (by with_reducible assumption) Try.underlying35 rfl (by kernel_rfl) ?_; simp only [go_sem]) | ((with_reducible show Oper.wp _ { dst := _, op := Op.store 35 _ _, type := _, pos := _, after := _, guard := _ } _ _ _ _); refine wp_store_mid (P := Try.prog) 35 _ _ rfl (wr.heap.size) (0) #[.float .f64 (S k).sm, .float .f64 (S k).si, .float .f64 (S k).sx, .float .f64 (S k).sy, .float .f64 (S k).ss] rfl rfl hX9 (by kernel_rfl) (by kernel_rfl) ?_; simp only [go_sem]; generalize ((wr.alloc (.cells #[.float .f64 0, .float .f64 0, .float .f64 0, .float .f64 0, .float .f64 0] 35)).setCells wr.heap.size 0 [.float .f64 (S k).sm, .float .f64 (S k).si, .float .f64 (S k).sx, .float .f64 (S k).sy, .float .f64 (S k).ss]) = w9 at hw0 hwt hB2 f1 ⊢) | ((with_reducible show Oper.wp _ { dst := _, op := Op.store 35 _ _, type := _, pos := _, after := _, guard := _ } _ _ _ _); refine wp_store_mid (P := Try.prog) 35 _ _ rfl (wr.heap.size) (0) #[.float .f64 (S6 k).sm, .float .f64 (S6 k).si, .float .f64 (S6 k).sx, .float .f64 (S6 k).sy, .float .f64 (S6 k).ss] rfl rfl ht3 (by kernel_rfl) (by kernel_rfl) ?_; simp only [go_sem]; have hB4 : Bel w7 (m1.setCells wr.heap.size 0 [.float .f64 (S6 k).sm, .float .f64 (S6 k).si, .float .f64 (S6 k).sx, .float .f64 (S6 k).sy, .float .f64 (S6 k).ss]) := bel_setsJ _ _ hB3 hz7; have hw4 : (m1.setCells wr.heap.size 0 [.float .f64 (S6 k).sm, .float .f64 (S6 k).si, .float .f64 (S6 k).sx, .float .f64 (S6 k).sy, .float .f64 (S6 k).ss]).rangeAt wr.heap.size 0 [.float .f64 (S6 k).sm, .float .f64 (S6 k).si, .float .f64 (S6 k).sx, .float .f64 (S6 k).sy, .float .f64 (S6 k).ss] := World.rangeAt_setCells_same _ _ _ _ ht3; generalize (m1.setCells wr.heap.size 0 [.float .f64 (S6 k).sm, .float .f64 (S6 k).si, .float .f64 (S6 k).sx, .float .f64 (S6 k).sy, .float .f64 (S6 k).ss]) = w10 at hB4 hw4 ⊢) | ((with_reducible show Oper.wp _ { dst := _, op := Op.store 35 _ _, type := _, pos := _, after := _, guard := _ } _ _ _ _); refine wp_store_mid (P := Try.prog) 35 _ _ rfl (wr.heap.size) (0) #[.float .f64 (S7 k).sm, .float .f64 (S7 k).si, .float .f64 (S7 k).sx, .float .f64 (S7 k).sy, .float .f64 (S7 k).ss] rfl rfl ht3 (by kernel_rfl) (by kernel_rfl) ?_; simp only [go_sem]; have hB4 : Bel w7 (m2.setCells wr.heap.size 0 [.float .f64 (S7 k).sm, .float .f64 (S7 k).si, .float .f64 (S7 k).sx, .float .f64 (S7 k).sy, .float .f64 (S7 k).ss]) := bel_setsJ _ _ hB3 hz7; have hw4 : (m2.setCells wr.heap.size 0 [.float .f64 (S7 k).sm, .float .f64 (S7 k).si, .float .f64 (S7 k).sx, .float .f64 (S7 k).sy, .float .f64 (S7 k).ss]).rangeAt wr.heap.size 0 [.float .f64 (S7 k).sm, .float .f64 (S7 k).si, .float .f64 (S7 k).sx, .float .f64 (S7 k).sy, .float .f64 (S7 k).ss] := World.rangeAt_setCells_same _ _ _ _ ht3; generalize (m2.setCells wr.heap.size 0 [.float .f64 (S7 k).sm, .float .f64 (S7 k).si, .float .f64 (S7 k).sx, .float .f64 (S7 k).sy, .float .f64 (S7 k).ss]) = w10 at hB4 hw4 ⊢) | (have zz := t8; clear zz t8; have t9 : Stg 9 := trivial; go_at_call 13; (with_reducible refine (lmoved21 (S k) _).mono ?_); rintro e m1 ⟨rfl, hbm1⟩; rw [hmv]; have hB3 := bl_trans hB2 hbm1; have hw3 := rng_bel hw0 hbm1; have ht3 := bel_there hwt hbm1; have f3 := (AllW.out _ hB3).1; have f6 := (AllW.out _ hB3).2.2.1; clear f0 f1 hw0 hwt) | (have zz := t9; clear zz t9; go_at_call 13; (with_reducible refine (lmoved21 (S k) _).mono ?_); rintro e m2 ⟨rfl, hbm2⟩; rw [hmv]; replace hB3 := bl_trans hB3 hbm2; replace hw3 := rng_bel hw3 hbm2; replace ht3 := bel_there ht3 hbm2; clear f3 f6; have f7 := (AllW.out _ hB3).2.2.2) | (go_at_call 14; (with_reducible refine (has21 rb ro rn rc_ rs Q (k : Int) _ hrs hrc hrm ((hr.bel BH).bel hB3) or_).mono ?_); rintro e h1 ⟨rfl, hh1⟩; rw [hhq, hh1]) | (go_at_call 14; (with_reducible refine (has21 qb qo qn qc_ qs Q2 (k : Int) _ hqs hqc hqm ((hq.bel BH).bel hB3) oq_).mono ?_); rintro e h2 ⟨rfl, hh2⟩; rw [hhp, hh2]) | go_values | go_skip | go_guarded | go_step | go_upon | go_back | dsimp only)
            have BW := hB4
            have hwant := hw4
            have hs5 := (AllW.out _ BW).2.1
            have hpX := hp7
            refine wp_region_mono 7 rfl (fun i W v => match i with | 0 => v = .slice (some ⟨gsw5, 0, none⟩) sn scw5 | 1 => v = .int .i64 (k : Int) | 2 => v = .pointer (some ⟨gsw5, k * 5, none⟩) | 3 => v = .agg #[.float .f64 (S5 k).sm, .float .f64 (S5 k).si, .float .f64 (S5 k).sx, .float .f64 (S5 k).sy, .float .f64 (S5 k).ss] | 4 => v = .agg #[.float .f64 (S7 k).sm, .float .f64 (S7 k).si, .float .f64 (S7 k).sx, .float .f64 (S7 k).sy, .float .f64 (S7 k).ss] | 5 => v = .bool true | 6 => v = .bool false | _ => False) ?A_zc (by kernel_rfl) (by kernel_rfl) ?hA_zc ?hmo_zc ?hq_zc ?ht_zc
            case hA_zc =>
              intro s
              simp only [putL, dstO, Act.put, List.getElem?_toArray, List.getElem?_cons_zero, List.getElem?_cons_succ, Option.bind_some, List.setIfInBounds_toArray, List.set_cons_zero, List.set_cons_succ, if_true]
              all_goals exact rfl
            case hmo_zc =>
              intro i W W' v hi hb h
              rcases (show i = 0 ∨ i = 1 ∨ i = 2 ∨ i = 3 ∨ i = 4 ∨ i = 5 ∨ i = 6 by omega) with rfl | rfl | rfl | rfl | rfl | rfl | rfl
              all_goals exact h
            case hq_zc =>
              intro i o hi ho s W hs hb K hK
              rcases (show i = 0 ∨ i = 1 ∨ i = 2 ∨ i = 3 ∨ i = 4 ∨ i = 5 ∨ i = 6 by omega) with rfl | rfl | rfl | rfl | rfl | rfl | rfl
              · cases ho
                simp only [Act.put, List.setIfInBounds_toArray, List.set_cons_zero, List.set_cons_succ] at hK
                clear hs
                go_simp
                all_goals first | with_reducible exact hK.out _ _ rfl (bl_refl _) | exact hK.out _ _ rfl (bl_refl _)
              · cases ho
                simp only [Act.put, List.setIfInBounds_toArray, List.set_cons_zero, List.set_cons_succ] at hK
                clear hs
                go_simp
                all_goals first | with_reducible exact hK.out _ _ rfl (bl_refl _) | exact hK.out _ _ rfl (bl_refl _)
              · cases ho
                have e0 : s 0 = _ := hs 0 (by decide) (by kernel_rfl)
                have e1 : s 1 = _ := hs 1 (by decide) (by kernel_rfl)
                simp only [e0, e1] at hK ⊢
                simp only [Act.put, List.setIfInBounds_toArray, List.set_cons_zero, List.set_cons_succ] at hK
                clear hs
                go_simp
                all_goals first | with_reducible exact hK.out _ _ rfl (bl_refl _) | exact hK.out _ _ rfl (bl_refl _)
              · cases ho
                have e2 : s 2 = _ := hs 2 (by decide) (by kernel_rfl)
                simp only [e2] at hK ⊢
                simp only [Act.put, List.setIfInBounds_toArray, List.set_cons_zero, List.set_cons_succ] at hK
                clear hs
                refine wp_load_mid (P := Try.prog) 35 _ rfl _ _ rfl [.float .f64 (S5 k).sm, .float .f64 (S5 k).si, .float .f64 (S5 k).sx, .float .f64 (S5 k).sy, .float .f64 (S5 k).ss] _ (rng_bel hs5 hb) Try.underlying35 rfl (by kernel_rfl) ?_; exact hK.out _ _ rfl (bl_refl _)
              · cases ho
                simp only [Act.put, List.setIfInBounds_toArray, List.set_cons_zero, List.set_cons_succ] at hK
                clear hs
                refine wp_load_mid (P := Try.prog) 35 _ rfl _ _ rfl [.float .f64 (S7 k).sm, .float .f64 (S7 k).si, .float .f64 (S7 k).sx, .float .f64 (S7 k).sy, .float .f64 (S7 k).ss] _ (rng_bel hwant hb) Try.underlying35 rfl (by kernel_rfl) ?_; exact hK.out _ _ rfl (bl_refl _)
              · cases ho
                have e3 : s 3 = _ := hs 3 (by decide) (by kernel_rfl)
                have e4 : s 4 = _ := hs 4 (by decide) (by kernel_rfl)
                simp only [e3, e4] at hK ⊢
                simp only [Act.put, List.setIfInBounds_toArray, List.set_cons_zero, List.set_cons_succ] at hK
                clear hs
                go_simp
                all_goals (try go_wp2_with (first | (go_at_call 15; (with_reducible refine (same_rel (S5 k) (S7 k) _ _ hp5 hpX).mono ?_); rintro e w' ⟨rfl, hb1⟩)))
                all_goals first | exact hK.out _ _ rfl hb1 | exact hK.out _ _ rfl hb1 | with_reducible exact hK.out _ _ rfl (bl_refl _) | exact hK.out _ _ rfl (bl_refl _)
              · cases ho
                have e5 : s 5 = _ := hs 5 (by decide) (by kernel_rfl)
                simp only [e5] at hK ⊢
                simp only [Act.put, List.setIfInBounds_toArray, List.set_cons_zero, List.set_cons_succ] at hK
                clear hs
                go_simp
                all_goals first | with_reducible exact hK.out _ _ rfl (bl_refl _) | exact hK.out _ _ rfl (bl_refl _)
            case ht_zc =>
              intro s W hs hb
              have e0 : s 0 = _ := hs 0 (by decide)
              have e1 : s 1 = _ := hs 1 (by decide)
              have e2 : s 2 = _ := hs 2 (by decide)
              have e3 : s 3 = _ := hs 3 (by decide)
              have e4 : s 4 = _ := hs 4 (by decide)
              have e5 : s 5 = _ := hs 5 (by decide)
              have e6 : s 6 = _ := hs 6 (by decide)
              simp only [e0, e1, e2, e3, e4, e5, e6]
              clear hs e0 e1 e2 e3 e4 e5 e6
              repeat (first | go_values | go_skip | go_guarded | go_step | go_upon | go_back | dsimp only)
              exact ⟨⟨k + 1, by omega, by go_num, bl_trans BW hb⟩, by simp [intOf]; omega⟩
        · have em : mrg Q rn (fun i => tlS (S i)) (itM Q (fun i => tlS (S i)) rn t).2 (itM Q2 (fun i => tlS (S i)) qn t).2 k = (itM Q (fun i => tlS (S i)) rn t).2 k := by unfold mrg; rw [show mvB (tlS (S k)) = true from hmv, htq]; rfl
          rw [em] at hp5
          rw [htq] at hhq
          repeat (first | ((with_reducible show Oper.wp _ { dst := _, op := Op.load 35 _, type := _, pos := _, after := _, guard := _ } _ _ _ _); refine wp_load_mid (P := Try.prog) 35 _ rfl _ _ rfl [.float .f64 (S k).sm, .float .f64 (S k).si, .float .f64 (S k).sx, .float .f64 (S k).sy, .float .f64 (S k).ss] _ (by with_reducible assumption) Try.underlying35 rfl (by kernel_rfl) ?_; simp only [go_sem]) | ((with_reducible show Oper.wp _ { dst := _, op := Op.load 35 _, type := _, pos := _, after := _, guard := _ } _ _ _ _); refine wp_load_mid (P := Try.prog) 35 _ rfl _ _ rfl [.float .f64 (S6 k).sm, .float .f64 (S6 k).si, .float .f64 (S6 k).sx, .float .f64 (S6 k).sy, .float .f64 (S6 k).ss] _ (by with_reducible assumption) Try.underlying35 rfl (by kernel_rfl) ?_; simp only [go_sem]) | ((with_reducible show Oper.wp _ { dst := _, op := Op.load 35 _, type := _, pos := _, after := _, guard := _ } _ _ _ _); refine wp_load_mid (P := Try.prog) 35 _ rfl _ _ rfl [.float .f64 (S7 k).sm, .float .f64 (S7 k).si, .float .f64 (S7 k).sx, .float .f64 (S7 k).sy, .float .f64 (S7 k).ss] _ (by with_reducible assumption) Try.underlying35 rfl (by kernel_rfl) ?_; simp only [go_sem]) | ((with_reducible show Oper.wp _ { dst := _, op := Op.store 35 _ _, type := _, pos := _, after := _, guard := _ } _ _ _ _); refine wp_store_mid (P := Try.prog) 35 _ _ rfl (wr.heap.size) (0) #[.float .f64 (S k).sm, .float .f64 (S k).si, .float .f64 (S k).sx, .float .f64 (S k).sy, .float .f64 (S k).ss] rfl rfl hX9 (by kernel_rfl) (by kernel_rfl) ?_; simp only [go_sem]; generalize ((wr.alloc (.cells #[.float .f64 0, .float .f64 0, .float .f64 0, .float .f64 0, .float .f64 0] 35)).setCells wr.heap.size 0 [.float .f64 (S k).sm, .float .f64 (S k).si, .float .f64 (S k).sx, .float .f64 (S k).sy, .float .f64 (S k).ss]) = w9 at hw0 hwt hB2 f1 ⊢) | ((with_reducible show Oper.wp _ { dst := _, op := Op.store 35 _ _, type := _, pos := _, after := _, guard := _ } _ _ _ _); refine wp_store_mid (P := Try.prog) 35 _ _ rfl (wr.heap.size) (0) #[.float .f64 (S6 k).sm, .float .f64 (S6 k).si, .float .f64 (S6 k).sx, .float .f64 (S6 k).sy, .float .f64 (S6 k).ss] rfl rfl ht3 (by kernel_rfl) (by kernel_rfl) ?_; simp only [go_sem]; have hB4 : Bel w7 (m1.setCells wr.heap.size 0 [.float .f64 (S6 k).sm, .float .f64 (S6 k).si, .float .f64 (S6 k).sx, .float .f64 (S6 k).sy, .float .f64 (S6 k).ss]) := bel_setsJ _ _ hB3 hz7; have hw4 : (m1.setCells wr.heap.size 0 [.float .f64 (S6 k).sm, .float .f64 (S6 k).si, .float .f64 (S6 k).sx, .float .f64 (S6 k).sy, .float .f64 (S6 k).ss]).rangeAt wr.heap.size 0 [.float .f64 (S6 k).sm, .float .f64 (S6 k).si, .float .f64 (S6 k).sx, .float .f64 (S6 k).sy, .float .f64 (S6 k).ss] := World.rangeAt_setCells_same _ _ _ _ ht3; generalize (m1.setCells wr.heap.size 0 [.float .f64 (S6 k).sm, .float .f64 (S6 k).si, .float .f64 (S6 k).sx, .float .f64 (S6 k).sy, .float .f64 (S6 k).ss]) = w10 at hB4 hw4 ⊢) | ((with_reducible show Oper.wp _ { dst := _, op := Op.store 35 _ _, type := _, pos := _, after := _, guard := _ } _ _ _ _); refine wp_store_mid (P := Try.prog) 35 _ _ rfl (wr.heap.size) (0) #[.float .f64 (S7 k).sm, .float .f64 (S7 k).si, .float .f64 (S7 k).sx, .float .f64 (S7 k).sy, .float .f64 (S7 k).ss] rfl rfl ht3 (by kernel_rfl) (by kernel_rfl) ?_; simp only [go_sem]; have hB4 : Bel w7 (m2.setCells wr.heap.size 0 [.float .f64 (S7 k).sm, .float .f64 (S7 k).si, .float .f64 (S7 k).sx, .float .f64 (S7 k).sy, .float .f64 (S7 k).ss]) := bel_setsJ _ _ hB3 hz7; have hw4 : (m2.setCells wr.heap.size 0 [.float .f64 (S7 k).sm, .float .f64 (S7 k).si, .float .f64 (S7 k).sx, .float .f64 (S7 k).sy, .float .f64 (S7 k).ss]).rangeAt wr.heap.size 0 [.float .f64 (S7 k).sm, .float .f64 (S7 k).si, .float .f64 (S7 k).sx, .float .f64 (S7 k).sy, .float .f64 (S7 k).ss] := World.rangeAt_setCells_same _ _ _ _ ht3; generalize (m2.setCells wr.heap.size 0 [.float .f64 (S7 k).sm, .float .f64 (S7 k).si, .float .f64 (S7 k).sx, .float .f64 (S7 k).sy, .float .f64 (S7 k).ss]) = w10 at hB4 hw4 ⊢) | (have zz := t8; clear zz t8; have t9 : Stg 9 := trivial; go_at_call 13; (with_reducible refine (lmoved21 (S k) _).mono ?_); rintro e m1 ⟨rfl, hbm1⟩; rw [hmv]; have hB3 := bl_trans hB2 hbm1; have hw3 := rng_bel hw0 hbm1; have ht3 := bel_there hwt hbm1; have f3 := (AllW.out _ hB3).1; have f6 := (AllW.out _ hB3).2.2.1; clear f0 f1 hw0 hwt) | (have zz := t9; clear zz t9; go_at_call 13; (with_reducible refine (lmoved21 (S k) _).mono ?_); rintro e m2 ⟨rfl, hbm2⟩; rw [hmv]; replace hB3 := bl_trans hB3 hbm2; replace hw3 := rng_bel hw3 hbm2; replace ht3 := bel_there ht3 hbm2; clear f3 f6; have f7 := (AllW.out _ hB3).2.2.2) | (go_at_call 14; (with_reducible refine (has21 rb ro rn rc_ rs Q (k : Int) _ hrs hrc hrm ((hr.bel BH).bel hB3) or_).mono ?_); rintro e h1 ⟨rfl, hh1⟩; rw [hhq, hh1]) | (go_at_call 14; (with_reducible refine (has21 qb qo qn qc_ qs Q2 (k : Int) _ hqs hqc hqm ((hq.bel BH).bel hB3) oq_).mono ?_); rintro e h2 ⟨rfl, hh2⟩; rw [hhp, hh2]) | go_values | go_skip | go_guarded | go_step | go_upon | go_back | dsimp only)
          have BW := hB4
          have hwant := hw4
          have hs5 := (AllW.out _ BW).2.1
          have hpX := hp6
          refine wp_region_mono 7 rfl (fun i W v => match i with | 0 => v = .slice (some ⟨gsw5, 0, none⟩) sn scw5 | 1 => v = .int .i64 (k : Int) | 2 => v = .pointer (some ⟨gsw5, k * 5, none⟩) | 3 => v = .agg #[.float .f64 (S5 k).sm, .float .f64 (S5 k).si, .float .f64 (S5 k).sx, .float .f64 (S5 k).sy, .float .f64 (S5 k).ss] | 4 => v = .agg #[.float .f64 (S6 k).sm, .float .f64 (S6 k).si, .float .f64 (S6 k).sx, .float .f64 (S6 k).sy, .float .f64 (S6 k).ss] | 5 => v = .bool true | 6 => v = .bool false | _ => False) ?A_zd (by kernel_rfl) (by kernel_rfl) ?hA_zd ?hmo_zd ?hq_zd ?ht_zd
          case hA_zd =>
            intro s
            simp only [putL, dstO, Act.put, List.getElem?_toArray, List.getElem?_cons_zero, List.getElem?_cons_succ, Option.bind_some, List.setIfInBounds_toArray, List.set_cons_zero, List.set_cons_succ, if_true]
            all_goals exact rfl
          case hmo_zd =>
            intro i W W' v hi hb h
            rcases (show i = 0 ∨ i = 1 ∨ i = 2 ∨ i = 3 ∨ i = 4 ∨ i = 5 ∨ i = 6 by omega) with rfl | rfl | rfl | rfl | rfl | rfl | rfl
            all_goals exact h
          case hq_zd =>
            intro i o hi ho s W hs hb K hK
            rcases (show i = 0 ∨ i = 1 ∨ i = 2 ∨ i = 3 ∨ i = 4 ∨ i = 5 ∨ i = 6 by omega) with rfl | rfl | rfl | rfl | rfl | rfl | rfl
            · cases ho
              simp only [Act.put, List.setIfInBounds_toArray, List.set_cons_zero, List.set_cons_succ] at hK
              clear hs
              go_simp
              all_goals first | with_reducible exact hK.out _ _ rfl (bl_refl _) | exact hK.out _ _ rfl (bl_refl _)
            · cases ho
              simp only [Act.put, List.setIfInBounds_toArray, List.set_cons_zero, List.set_cons_succ] at hK
              clear hs
              go_simp
              all_goals first | with_reducible exact hK.out _ _ rfl (bl_refl _) | exact hK.out _ _ rfl (bl_refl _)
            · cases ho
              have e0 : s 0 = _ := hs 0 (by decide) (by kernel_rfl)
              have e1 : s 1 = _ := hs 1 (by decide) (by kernel_rfl)
              simp only [e0, e1] at hK ⊢
              simp only [Act.put, List.setIfInBounds_toArray, List.set_cons_zero, List.set_cons_succ] at hK
              clear hs
              go_simp
              all_goals first | with_reducible exact hK.out _ _ rfl (bl_refl _) | exact hK.out _ _ rfl (bl_refl _)
            · cases ho
              have e2 : s 2 = _ := hs 2 (by decide) (by kernel_rfl)
              simp only [e2] at hK ⊢
              simp only [Act.put, List.setIfInBounds_toArray, List.set_cons_zero, List.set_cons_succ] at hK
              clear hs
              refine wp_load_mid (P := Try.prog) 35 _ rfl _ _ rfl [.float .f64 (S5 k).sm, .float .f64 (S5 k).si, .float .f64 (S5 k).sx, .float .f64 (S5 k).sy, .float .f64 (S5 k).ss] _ (rng_bel hs5 hb) Try.underlying35 rfl (by kernel_rfl) ?_; exact hK.out _ _ rfl (bl_refl _)
            · cases ho
              simp only [Act.put, List.setIfInBounds_toArray, List.set_cons_zero, List.set_cons_succ] at hK
              clear hs
              refine wp_load_mid (P := Try.prog) 35 _ rfl _ _ rfl [.float .f64 (S6 k).sm, .float .f64 (S6 k).si, .float .f64 (S6 k).sx, .float .f64 (S6 k).sy, .float .f64 (S6 k).ss] _ (rng_bel hwant hb) Try.underlying35 rfl (by kernel_rfl) ?_; exact hK.out _ _ rfl (bl_refl _)
            · cases ho
              have e3 : s 3 = _ := hs 3 (by decide) (by kernel_rfl)
              have e4 : s 4 = _ := hs 4 (by decide) (by kernel_rfl)
              simp only [e3, e4] at hK ⊢
              simp only [Act.put, List.setIfInBounds_toArray, List.set_cons_zero, List.set_cons_succ] at hK
              clear hs
              go_simp
              all_goals (try go_wp2_with (first | (go_at_call 15; (with_reducible refine (same_rel (S5 k) (S6 k) _ _ hp5 hpX).mono ?_); rintro e w' ⟨rfl, hb1⟩)))
              all_goals first | exact hK.out _ _ rfl hb1 | exact hK.out _ _ rfl hb1 | with_reducible exact hK.out _ _ rfl (bl_refl _) | exact hK.out _ _ rfl (bl_refl _)
            · cases ho
              have e5 : s 5 = _ := hs 5 (by decide) (by kernel_rfl)
              simp only [e5] at hK ⊢
              simp only [Act.put, List.setIfInBounds_toArray, List.set_cons_zero, List.set_cons_succ] at hK
              clear hs
              go_simp
              all_goals first | with_reducible exact hK.out _ _ rfl (bl_refl _) | exact hK.out _ _ rfl (bl_refl _)
          case ht_zd =>
            intro s W hs hb
            have e0 : s 0 = _ := hs 0 (by decide)
            have e1 : s 1 = _ := hs 1 (by decide)
            have e2 : s 2 = _ := hs 2 (by decide)
            have e3 : s 3 = _ := hs 3 (by decide)
            have e4 : s 4 = _ := hs 4 (by decide)
            have e5 : s 5 = _ := hs 5 (by decide)
            have e6 : s 6 = _ := hs 6 (by decide)
            simp only [e0, e1, e2, e3, e4, e5, e6]
            clear hs e0 e1 e2 e3 e4 e5 e6
            repeat (first | go_values | go_skip | go_guarded | go_step | go_upon | go_back | dsimp only)
            exact ⟨⟨k + 1, by omega, by go_num, bl_trans BW hb⟩, by simp [intOf]; omega⟩
    · have hkn : k = sn := by omega
      subst hkn
      have r6 := (it_inv (M := fun i => tlS (S i)) (asE_zero he).2.2.1 or_ t).2.1
      have r7 := (it_inv (M := fun i => tlS (S i)) (asE_zero hg).2.2.1 oq_ t).2.1
      have hof2 : ∀ i, i < qn → ((itM Q2 (fun i => tlS (S i)) qn t).1 i).ro < 1000 := fun i hi => by rw [(k3 i).2.2]; exact hof i hi
      have R5 : Rws wr grw5 0 (rn + qn) (joQ (itM Q (fun i => tlS (S i)) rn t).1 rn (itM Q2 (fun i => tlS (S i)) qn t).1) := by
        have h := hRWw5.at_
        rw [k1] at h
        exact (h.bel (bl_trans hbw6 hbw7)).bel hB
      have R6 := (hRWw6.at_.bel hbw7).bel hB
      have R7 := hRWw7.at_.bel hB
      have p19 := p2w5
      clear hR5 hR6 hR7 hS5 hS6 hS7 k1 k2 k4 k5 hjo hjr ap0
      repeat (first | (go_at_call 12; (with_reducible refine (joined_w grw6 0 rn rcw6 rsw6 (itM Q (fun i => tlS (S i)) rn t).1 grw7 0 qn rcw7 rsw7 (itM Q2 (fun i => tlS (S i)) qn t).1 _ p1w6 p2w6 p3w6 R6 r6 p1w7 p2w7 p3w7 R7 r7 hl1 hl2 hof2).mono ?_); rintro e wj ⟨vj, hOj, rfl, hbj⟩; obtain ⟨jb2, jc2, js2, rfl, hjs2, hjc2, hjm2, hj2⟩ := own_rows hOj) | (go_at_call 16; (with_reducible refine (sameRows21 grw5 0 rcw5 jb2 0 jc2 (rn + qn) rsw5 js2 (joQ (itM Q (fun i => tlS (S i)) rn t).1 rn (itM Q2 (fun i => tlS (S i)) qn t).1) _ p1w5 hjs2 p2w5 hjc2 (by omega) (R5.bel hbj) hj2 (jo_rok r6 r7)).mono ?_); rintro e wz ⟨rfl, hbz⟩) | go_values | go_skip | go_guarded | go_step | go_upon | go_back | dsimp only)
      go_ret
      exact ⟨rfl, bl_trans (bl_trans (bl_trans BH hB) hbj) hbz⟩

end Go.Proofs.Ytchfgaooogfkdaa
