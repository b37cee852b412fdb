/-
  What each function of package poly answers, and what the reference of its chapter answers: one contract a function, for every float: the answer stands in the relation of its formula to what was given; of the memory that was there nothing has turned.
-/
import Derived.Test.YtfohggiehbplkaaVec
import Derived.Test.YtfohggiehbplkaaXg
import Derived.Below
import Derived.OwnWalk
import Derived.Laws.AppendOwn
import Derived.Lib.SliceRun
import Derived.Laws.MakeOwn
import Derived.WalkKit
import Derived.WalkLawsBesides
import Derived.WalkSpells
import Derived.ProofKit
import Derived.OpenShut
import Derived.Deep.RegionHeld3
namespace Go.Proofs.Ytfohggiehbplkaa
open Go.ChangeShapes Go.WideShapes Go.ChangeAt Go.RowKit
set_option linter.unusedVariables false
set_option linter.unusedSimpArgs false


theorem anyN_no {p : Nat → Bool} : ∀ {n : Nat}, anyN p n = false → ∀ i, i < n → p i = false := fun {n} h i hi => by
 cases hp : p i with
 | false => rfl
 | true => rw [anyN_at hp hi] at h; cases h
theorem asE_zero {Q : Nat → RD} {n : Nat} {S : Nat → SD} {m : Nat} (h : asE Q n S m = 0) : n ≤ 1048576 ∧ m ≤ 1024 ∧ (∀ i, i < n → chB (Q i) n m = true) ∧ ∀ i, i < m → stB (S i) = true := by
 unfold asE at h
 by_cases g : 1048576 < n ∨ 1024 < m
 ·rw [if_pos g] at h; omega
 ·rw [if_neg g] at h
  refine ⟨by omega, by omega, ?_⟩
  cases h1 : crB Q n m n
  ·rw [h1] at h; simp at h
  ·cases h2 : anyN (fun i => !stB (S i)) m
   ·exact ⟨crB_all h1, fun i hi => by have := anyN_no h2 i hi; simpa using this⟩
   ·rw [h1, h2] at h; simp at h
/-- what all rounds make of rows and stills -/
def itM (Q : Nat → RD) (M : Nat → SD) (rn : Nat) : Nat → (Nat → RD) × (Nat → SD)
 | 0 => (Q, warmM Q M rn)
 | j + 1 => rndM (itM Q M rn j).1 (itM Q M rn j).2 rn
theorem it_inv {Q : Nat → RD} {M : Nat → SD} {n m : Int} {rn : Nat} (h : ∀ i, i < rn → chB (Q i) n m = true) (g : ∀ i, i < rn → rok (Q i)) : ∀ j, (∀ i, i < rn → chB ((itM Q M rn j).1 i) n m = true) ∧ (∀ i, i < rn → rok ((itM Q M rn j).1 i)) ∧ ∀ i, stB ((itM Q M rn j).2 i) = stB (M i)
 | 0 => ⟨h, g, fun i => warm_st Q M rn i⟩
 | j + 1 => by
  obtain ⟨h1, h2, h3⟩ := it_inv (M := M) h g j
  have r := rnd_ch (M := (itM Q M rn j).2) h1 rn (Nat.le_refl _)
  exact ⟨r.1, rnd_ok (M := (itM Q M rn j).2) h2 rn (Nat.le_refl _), fun i => (r.2 i).trans (h3 i)⟩
theorem Fx.mono2 {g : Nat} {w w' : World} (h : Fx [g] w w') (a : Nat) : Fx [a, g] w w' := ⟨h.os, h.tape, h.output, h.size, fun k hk hn => h.block k hk (fun hm => hn (List.mem_cons_of_mem _ hm)), h.froz, h.thr⟩
/-- what All answers: rows and stills of its own -/
structure AllR (w w' : World) (v1 v2 : Value) (rn sn : Nat) (Q : Nat → RD) (M : Nat → SD) : Prop where
 at_ : ∃ gr rc rs gs sc ss, v1 = .slice rs rn rc ∧ v2 = .slice ss sn sc ∧ (rn = 0 ∨ rs = some ⟨gr, 0, none⟩) ∧ rn ≤ rc ∧ rc ≤ maxLen ∧ (sn = 0 ∨ ss = some ⟨gs, 0, none⟩) ∧ sn ≤ sc ∧ sc ≤ maxLen ∧ w.heap.size ≤ gr ∧ w.heap.size ≤ gs ∧ gr ≠ gs ∧ RwM w' gr rn Q ∧ StM w' gs sn M
theorem two_blocks {w W : World} {v1 v2 : Value} {rn sn : Nat} {Q : Nat → RD} {S : Nat → SD} (h : Ownr w W v1 rn Q) (g : Owns w W v2 sn S) (h0 : 0 < rn → 0 < sn) : ∃ gr rc rs gs sc ss, v1 = .slice rs rn rc ∧ v2 = .slice ss sn sc ∧ (rn = 0 ∨ rs = some ⟨gr, 0, none⟩) ∧ rn ≤ rc ∧ rc ≤ maxLen ∧ (sn = 0 ∨ ss = some ⟨gs, 0, none⟩) ∧ sn ≤ sc ∧ sc ≤ maxLen ∧ w.heap.size ≤ gr ∧ w.heap.size ≤ gs ∧ gr ≠ gs ∧ RwM W gr rn Q ∧ Sts W gs 0 sn S ∧ W.there gs 0 (sn * 5) := by
 obtain ⟨a, b, c, h1, h2, h3, h4, h5, h6, h7⟩ := h
 obtain ⟨a', b', c', g1, g2, g3, g4, g5, g6, g7⟩ := g
 rcases Nat.eq_zero_or_pos rn with hz | hp
 ·refine ⟨a' + 1, b, c, a', b', c', h1, g1, .inl hz, h3, h4, g2, g3, g4, by omega, g5, by omega, ⟨?_, ?_⟩, g6, g7⟩
  ·subst hz; intro j hj; omega
  ·subst hz; intro i hi; omega
 ·refine ⟨a, b, c, a', b', c', h1, g1, h2, h3, h4, g2, g3, g4, h5, g5, ?_, ⟨h7, h6⟩, g6, g7⟩
  rintro rfl
  have q1 := h6 0 hp 0 _ rfl
  have q2 := g6 0 (h0 hp) 0 _ rfl
  simp only [Nat.zero_add, Nat.zero_mul] at q1 q2
  rw [q1] at q2
  cases q2
set_option maxRecDepth 100000 in
set_option maxHeartbeats 4000000 in
theorem all_rounds (rb ro rn rc_ : Nat) (rs : Option Addr) (Q : Nat → RD) (sb so sn sc_ : Nat) (ss : Option Addr) (S : Nat → SD) (n : Int) (w : World) (hrs : rn = 0 ∨ rs = some ⟨rb, ro, none⟩) (hrc : rn ≤ rc_) (hrm : rc_ ≤ maxLen) (hr : Rws w rb ro rn Q) (or_ : ∀ i, i < rn → rok (Q i)) (hss : sn = 0 ∨ ss = some ⟨sb, so, none⟩) (hsc : sn ≤ sc_) (hsm : sc_ ≤ maxLen) (hs : Sts w sb so sn S) (os : ∀ i, i < sn → sok (S i)) (he : asE Q rn S sn = 0) (h0 : n < 0 ∨ 64 < n) : Calls Try.prog 31 #[.slice rs rn rc_, .slice ss sn sc_, .int .i64 n] w fun e w' => e = .returned (.tuple #[.slice none 0 0, .slice none 0 0, .int .i64 210]) ∧ Bel w w' := by
 have hX : (w.alloc (.cells #[.slice none 0 0, .slice none 0 0] 116)).there w.heap.size 0 2 := there_new w [.slice none 0 0, .slice none 0 0] 116
 have hT : ((w.alloc (.cells #[.slice none 0 0, .slice none 0 0] 116)).setCells w.heap.size 0 [.slice rs rn rc_, .slice ss sn sc_]).rangeAt w.heap.size 0 [.slice rs rn rc_, .slice ss sn sc_] := World.rangeAt_setCells_same _ _ _ _ hX
 have B0 : Bel w ((w.alloc (.cells #[.slice none 0 0, .slice none 0 0] 116)).setCells w.heap.size 0 [.slice rs rn rc_, .slice ss sn sc_]) := bel_setsJ _ _ (bl_alloc (bl_refl _) _ _) (Nat.le_refl _)
 go_enter Try.func31, Try.ntmps31
 rcases (show n < 0 ∨ (¬ n < 0 ∧ 64 < n) by omega) with h1 | ⟨h1, h2⟩
 all_goals
  repeat (first | ((with_reducible show Oper.wp _ ⟨_, Op.build 116 _, _, _, _, _⟩ _ _ _ _); refine wp_build 116 _ rfl (.agg #[.slice rs rn rc_, .slice ss sn sc_]) (by kernel_rfl) ?_; simp only [go_sem]) | ((with_reducible show Oper.wp _ ⟨_, Op.store 116 _ _, _, _, _, _⟩ _ _ _ _); refine wp_store_mid (P := Try.prog) 116 _ _ rfl (w.heap.size) (0) #[.slice rs rn rc_, .slice ss sn sc_] rfl rfl hX (by kernel_rfl) (by kernel_rfl) ?_; simp only [go_sem]) | (with_reducible show Oper.wp _ _ _ _ _ _; refine wp_load_mid (P := Try.prog) 116 _ rfl (w.heap.size) 0 rfl [.slice rs rn rc_, .slice ss sn sc_] _ (by with_reducible assumption) Try.underlying116 rfl (by kernel_rfl) ?_; simp only [go_sem]) | (go_at_call 71; (with_reducible refine (check_t rb ro rn rc_ rs Q sb so sn sc_ ss S _ hrs hrc hrm (hr.bel B0) or_ hss hsc hsm (hs.bel B0) os).mono ?_); rintro e w' ⟨rfl, hb⟩; rw [he]) | go_values | go_skip | go_guarded | go_step | go_upon | go_back | dsimp only)
  refine bodyPost_ret (v := .tuple #[.slice none 0 0, .slice none 0 0, .int .i64 210]) (by kernel_rfl) rfl ?_
  exact ⟨rfl, bl_trans B0 hb⟩
set_option maxRecDepth 100000 in
set_option maxHeartbeats 4000000 in
theorem all_ok (rb ro rn rc_ : Nat) (rs : Option Addr) (Q : Nat → RD) (sb so sn sc_ : Nat) (ss : Option Addr) (S : Nat → SD) (n : Nat) (w : World) (hrs : rn = 0 ∨ rs = some ⟨rb, ro, none⟩) (hrc : rn ≤ rc_) (hrm : rc_ ≤ maxLen) (hr : Rws w rb ro rn Q) (or_ : ∀ i, i < rn → rok (Q i)) (hss : sn = 0 ∨ ss = some ⟨sb, so, none⟩) (hsc : sn ≤ sc_) (hsm : sc_ ≤ maxLen) (hs : Sts w sb so sn S) (os : ∀ i, i < sn → sok (S i)) (he : asE Q rn S sn = 0) (hn : n ≤ 64) : Calls Try.prog 31 #[.slice rs rn rc_, .slice ss sn sc_, .int .i64 n] w fun e w' => ∃ v1 v2, AllR w w' v1 v2 rn sn (itM Q (fun i => tlS (S i)) rn n).1 (itM Q (fun i => tlS (S i)) rn n).2 ∧ e = .returned (.tuple #[v1, v2, .int .i64 0]) ∧ Bel w w' := by
 obtain ⟨hl1, hl2, hch, hst⟩ := asE_zero he
 have hX : (w.alloc (.cells #[.slice none 0 0, .slice none 0 0] 116)).there w.heap.size 0 2 := there_new w [.slice none 0 0, .slice none 0 0] 116
 have hT : ((w.alloc (.cells #[.slice none 0 0, .slice none 0 0] 116)).setCells w.heap.size 0 [.slice rs rn rc_, .slice ss sn sc_]).rangeAt w.heap.size 0 [.slice rs rn rc_, .slice ss sn sc_] := World.rangeAt_setCells_same _ _ _ _ hX
 have hTt : ((w.alloc (.cells #[.slice none 0 0, .slice none 0 0] 116)).setCells w.heap.size 0 [.slice rs rn rc_, .slice ss sn sc_]).there w.heap.size 0 2 := World.there_setCells hX _ _ _
 have B0 : Bel w ((w.alloc (.cells #[.slice none 0 0, .slice none 0 0] 116)).setCells w.heap.size 0 [.slice rs rn rc_, .slice ss sn sc_]) := bel_setsJ _ _ (bl_alloc (bl_refl _) _ _) (Nat.le_refl _)
 have hzT : w.heap.size < ((w.alloc (.cells #[.slice none 0 0, .slice none 0 0] 116)).setCells w.heap.size 0 [.slice rs rn rc_, .slice ss sn sc_]).heap.size := by rw [size_setsJ, World.size_alloc]; omega
 have h1 : ¬ (n : Int) < 0 := by omega
 have h2 : ¬ (64 : Int) < (n : Int) := by omega
 have h00 : 0 < rn → 0 < sn := fun h => by
  have := hch 0 h
  unfold chB mayB at this
  simp only [Bool.and_eq_true, decide_eq_true_eq] at this
  omega
 go_enter Try.func31, Try.ntmps31
 repeat (first | ((with_reducible show Oper.wp _ ⟨_, Op.build 116 _, _, _, _, _⟩ _ _ _ _); refine wp_build 116 _ rfl (.agg #[.slice rs rn rc_, .slice ss sn sc_]) (by kernel_rfl) ?_; simp only [go_sem]) | ((with_reducible show Oper.wp _ ⟨_, Op.store 116 _ _, _, _, _, _⟩ _ _ _ _); refine wp_store_mid (P := Try.prog) 116 _ _ rfl (w.heap.size) (0) #[.slice rs rn rc_, .slice ss sn sc_] rfl rfl hX (by kernel_rfl) (by kernel_rfl) ?_; simp only [go_sem]) | (with_reducible show Oper.wp _ _ _ _ _ _; refine wp_load_mid (P := Try.prog) 116 _ rfl (w.heap.size) 0 rfl [.slice rs rn rc_, .slice ss sn sc_] _ (by with_reducible assumption) Try.underlying116 rfl (by kernel_rfl) ?_; simp only [go_sem]) | (go_at_call 71; (with_reducible refine (check_t rb ro rn rc_ rs Q sb so sn sc_ ss S _ hrs hrc hrm (hr.bel B0) or_ hss hsc hsm (hs.bel B0) os).mono ?_); rintro e w1 ⟨rfl, hb⟩; rw [he]; have B1 := bl_trans B0 hb; have hT1 := rng_bel hT hb; have hTt1 := bel_there hTt hb; have hz1 := Nat.lt_of_lt_of_le hzT hb.size; clear hX hT hTt hzT) | (go_at_call 72; (with_reducible refine (copied_w rb ro rn rc_ rs Q sb so sn sc_ ss S _ hrs hrc hrm (hr.bel B1) or_ hss hsc hsm (hs.bel B1) os hl1 hl2).mono ?_); rintro e w2 ⟨v1, v2, ho1, ho2, rfl, hb2⟩; obtain ⟨gr, rc1, rs1, gs, sc1, ss1, rfl, rfl, p1, p2, p3, p4, p5, p6, p7, p8, p9, hRW, hSt, hthS⟩ := two_blocks ho1 ho2 h00; have B2 := bl_trans B1 hb2; have hT2 := bel_there hTt1 hb2; have hzw := hb2.size; have hzB := B1.size; have hT3 : (w2.setCells w.heap.size 0 [.slice rs1 rn rc1, .slice ss1 sn sc1]).rangeAt w.heap.size 0 [.slice rs1 rn rc1, .slice ss1 sn sc1] := World.rangeAt_setCells_same _ _ _ _ hT2; have B3 : Bel w (w2.setCells w.heap.size 0 [.slice rs1 rn rc1, .slice ss1 sn sc1]) := bel_setsJ _ _ B2 (Nat.le_refl _); have F3 : Fx [w.heap.size] w2 (w2.setCells w.heap.size 0 [.slice rs1 rn rc1, .slice ss1 sn sc1]) := (Fx.refl _ _).sets (by simp) _ _; have hRW3 := hRW.away F3 (by simp only [List.mem_singleton]; omega); have hSM3 : StM (w2.setCells w.heap.size 0 [.slice rs1 rn rc1, .slice ss1 sn sc1]) gs sn (fun i => tlS (S i)) := StM.away ⟨hthS, S, hSt, fun i hi => RelS.of (os i hi)⟩ F3 (by simp only [List.mem_singleton]; omega); have ngr : gr ∉ [gs] := (by simp only [List.mem_singleton]; exact p9); have nT : w.heap.size ∉ [gr, gs] := (by simp only [List.mem_cons, List.not_mem_nil, or_false]; omega); have hstM : ∀ i, i < sn → stB (tlS (S i)) = true := hst; clear hRW hSt hthS hT1 hTt1 F3) | ((with_reducible show Oper.wp _ ⟨_, Op.store 116 _ _, _, _, _, _⟩ _ _ _ _); refine wp_store_mid (P := Try.prog) 116 _ _ rfl (w.heap.size) (0) #[.slice rs1 rn rc1, .slice ss1 sn sc1] rfl rfl hT2 (by kernel_rfl) (by kernel_rfl) ?_; simp only [go_sem]) | (have zz := hT3; clear zz; with_reducible show Oper.wp _ _ _ _ _ _; refine wp_load_mid (P := Try.prog) 116 _ rfl (w.heap.size) 0 rfl [.slice rs1 rn rc1, .slice ss1 sn sc1] _ (by with_reducible assumption) Try.underlying116 rfl (by kernel_rfl) ?_; simp only [go_sem]) | (go_at_call 73; (with_reducible refine (warm_w gr 0 rn rc1 rs1 Q gs sn sc1 ss1 (fun i => tlS (S i)) _ p1 p2 p3 hRW3.at_ or_ p4 p5 p6 hSM3 p9 hstM hch).mono ?_); rintro e w4 ⟨hSM4, hF4, rfl⟩; have hRW4 := hRW3.away hF4 ngr; have hF5 := hF4.mono2 gr; clear hF4) | go_values | go_skip | go_guarded | go_step | go_upon | go_back | dsimp only)
 go_loopw [30] (fun i wr => ∃ j : Nat, j ≤ n ∧ i = .int .i64 j ∧ Fx [gr, gs] (w2.setCells w.heap.size 0 [.slice rs1 rn rc1, .slice ss1 sn sc1]) wr ∧ RwM wr gr rn (itM Q (fun i => tlS (S i)) rn j).1 ∧ StM wr gs sn (itM Q (fun i => tlS (S i)) rn j).2) (fun i _ => n - (intOf i).toNat)
 case atStart => exact ⟨0, by omega, rfl, hF5, hRW4, hSM4⟩
 case round =>
  obtain ⟨j, hj, rfl, hF, hRM, hSM⟩ := hrel
  have hTr : wr.rangeAt w.heap.size 0 [.slice rs1 rn rc1, .slice ss1 sn sc1] := hF.rng nT hT3
  by_cases hlt : j < n
  ·have hkI : (j : Int) < (n : Int) := by omega
   obtain ⟨i1, i2, i3⟩ := it_inv (M := fun i => tlS (S i)) hch or_ j
   have i4 : ∀ i, i < sn → stB ((itM Q (fun i => tlS (S i)) rn j).2 i) = true := fun i hi => by rw [i3]; exact hst i hi
   repeat (first | (with_reducible show Oper.wp _ _ _ _ _ _; refine wp_load_mid (P := Try.prog) 116 _ rfl (w.heap.size) 0 rfl [.slice rs1 rn rc1, .slice ss1 sn sc1] _ (by with_reducible assumption) Try.underlying116 rfl (by kernel_rfl) ?_; simp only [go_sem]) | (go_at_call 74; (with_reducible refine (round_w gr rn rc1 rs1 _ gs sn sc1 ss1 _ _ p1 p2 p3 hRM i2 p4 p5 p6 hSM p9 i4 i1).mono ?_); rintro e w6 ⟨hR6, hS6, hF6, rfl⟩) | go_values | go_skip | go_guarded | go_step | go_upon | go_back | dsimp only)
   exact ⟨⟨j + 1, by omega, by go_num, hF.trans hF6, hR6, hS6⟩, by simp [intOf]; omega⟩
  ·have hkn : j = n := by omega
   subst hkn
   have t0 : wr.cell? ⟨w.heap.size, 0, none⟩ = some (.slice rs1 rn rc1) := hTr 0 _ rfl
   have t1 : wr.cell? ⟨w.heap.size, 1, none⟩ = some (.slice ss1 sn sc1) := hTr 1 _ rfl
   repeat (first | go_values | go_skip | go_guarded | go_step | go_upon | go_back | dsimp only)
   have BN := belBy_some wr
   replace t0 := belBy_cell (W := wr) t0
   replace t1 := belBy_cell (W := wr) t1
   refine wp_region_quiet_bel (by kernel_rfl) (by kernel_rfl) ?_
   repeat (go_big_quiet_step (fail))
   refine wpQuiet_nil ?_
   rintro _ ⟨pW, rfl⟩
   repeat (first | go_values | go_skip | go_guarded | go_step | go_upon | go_back | dsimp only)
   refine bodyPost_ret (v := .tuple #[.slice rs1 rn rc1, .slice ss1 sn sc1, .int .i64 0]) (by kernel_rfl) rfl ?_
   have q0 : Bel w pW.world := bl_trans (hF.bel B3 (fun k hk => by simp only [List.mem_cons, List.not_mem_nil, or_false] at hk; rcases hk with rfl | rfl <;> omega)) pW.h
   have q1 : AllR w pW.world (.slice rs1 rn rc1) (.slice ss1 sn sc1) rn sn (itM Q (fun i => tlS (S i)) rn j).1 (itM Q (fun i => tlS (S i)) rn j).2 := ⟨gr, rc1, rs1, gs, sc1, ss1, rfl, rfl, p1, p2, p3, p4, p5, p6, by omega, by omega, p9, hRM.bel pW.h, hSM.bel pW.h⟩
   first | exact ⟨_, _, q1, rfl, q0⟩ | exact ⟨_, q1, rfl, q0⟩

end Go.Proofs.Ytfohggiehbplkaa
