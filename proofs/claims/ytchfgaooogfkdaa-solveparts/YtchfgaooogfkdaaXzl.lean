/-
  What each function of package poly answers, and what the reference of its chapter answers: one contract a function, for every float: the answer stands in the relation of its formula to what was given; of the memory that was there nothing has turned.
-/
import Derived.Test.YtchfgaooogfkdaaVec
import Derived.Test.YtchfgaooogfkdaaXzk
import Derived.Below
import Derived.OwnWalk
import Derived.Laws.AppendOwn
import Derived.Lib.SliceRun
import Derived.Laws.MakeOwn
import Derived.WalkKit
import Derived.WalkLawsBesides
import Derived.WalkSpells
import Derived.ProofKit
import Derived.OpenShut
import Derived.Deep.RegionHeld3
namespace Go.Proofs.Ytchfgaooogfkdaa
open Go.ChangeShapes Go.WideShapes Go.ChangeAt Go.RowKit
set_option linter.unusedVariables false
set_option linter.unusedSimpArgs false

set_option maxRecDepth 100000 in
set_option maxHeartbeats 8000000 in
theorem only_ok2 (rb ro rn rc_ : Nat) (rs : Option Addr) (Q : Nat → RD) (ib io inn ic_ : Nat) (is_ : Option Addr) (X : Nat → Int) (w : World) (hrs : rn = 0 ∨ rs = some ⟨rb, ro, none⟩) (hrc : rn ≤ rc_) (hrm : rc_ ≤ maxLen) (hr : Rws w rb ro rn Q) (or_ : ∀ i, i < rn → rok (Q i)) (his : inn = 0 ∨ is_ = some ⟨ib, io, none⟩) (hic : inn ≤ ic_) (him : ic_ ≤ maxLen) (hi_ : Ints w ib io inn X) (hl1 : rn ≤ 1048576) (hl2 : inn ≤ 1024) (hcr : crB Q rn 1024 rn = true) : Calls Try.prog 28 #[.slice rs rn rc_, .slice is_ inn ic_] w fun e w' => ∃ g m v2, m = (pickN (ofP Q X inn) rn).length ∧ w.heap.size ≤ g ∧ Rws w' g 0 m (onlyR Q (pickN (ofP Q X inn) rn)) ∧ w'.there g 0 (m * 14) ∧ OwnR 1 w.heap.size w' v2 m (intsV (pickN (ofP Q X inn) rn)) ∧ (∀ gg cp, v2 = .slice (some ⟨gg, 0, none⟩) m cp → 0 < m → gg < g) ∧ e = .returned (.tuple #[.slice (some ⟨g, 0, none⟩) m m, v2, .int .i64 0]) ∧ Bel w w' := by
  have hch := crB_all hcr
  have h1 : ¬ (1048576 : Int) < rn := by omega
  have h2 : ¬ (1024 : Int) < inn := by omega
  have hpl := pick_le (ofP Q X inn) rn
  have hpu := pick_up (ofP Q X inn) rn
  have hpm : ∀ i, i < (pickN (ofP Q X inn) rn).length → LN (pickN (ofP Q X inn) rn) i < rn := fun i hi => by rw [LN_get hi]; exact pick_mem (List.getElem_mem hi)
  have hgi : ∀ i, i < (pickN (ofP Q X inn) rn).length → (intsV (pickN (ofP Q X inn) rn))[i]? = some (.int .i64 (LN (pickN (ofP Q X inn) rn) i)) := fun i hi => by unfold intsV; rw [List.getElem?_map, List.getElem?_eq_getElem hi, LN_get hi]; rfl
  obtain ⟨L, eL⟩ : ∃ L, pickN (ofP Q X inn) rn = L := ⟨_, rfl⟩
  obtain ⟨m, em⟩ : ∃ m, L.length = m := ⟨_, rfl⟩
  rw [eL] at hpl hpu hpm hgi
  rw [em] at hpl hpm hgi
  have hmk := fun W => make_rows m (by omega) W
  unfold maxLen at hrm
  go_enter Try.func28, Try.ntmps28
  repeat (first | (go_at_call 62; (with_reducible refine (checkRows_w rb ro rn rc_ rs Q 1024 _ hrs hrc (by unfold maxLen; omega) hr or_).mono ?_); rintro e w1 ⟨rfl, hb⟩; rw [hcr]; simp only [cond_true]) | (go_at_call 63; (with_reducible refine (of_w rb ro rn rc_ rs Q ib io inn ic_ is_ X _ hrs hrc (by unfold maxLen; omega) (hr.bel hb) or_ his hic him (hi_.bel hb) hl1 hl2 hch).mono ?_); rintro e w3 ⟨v2, hO, rfl, hb3⟩; rw [eL, em] at hO; obtain ⟨sl, c2, g2, rfl, hsl, hc2, hI⟩ := own_ints hO hgi) | go_values | go_skip | go_guarded | go_step | go_upon | go_back | dsimp only)
  have hup : ∀ a b, a < b → b < m → ((LN L a : Nat) : Int) < ((LN L b : Nat) : Int) := fun a b hab hb => by
    rw [LN_get (by omega), LN_get (by omega)]
    have := List.pairwise_iff_getElem.1 hpu a b (by omega) (by omega) hab
    omega
  have B3 := bl_trans hb hb3
  have hz4 : w3.heap.size < (w3.alloc (.cells (madeCells #[.int .i64 0, .int .i64 0, .float .f64 0, .float .f64 0, .float .f64 0, .float .f64 0, .float .f64 0, .float .f64 0, .float .f64 0, .float .f64 0, .float .f64 0, .float .f64 0, .int .i64 0, .float .f64 0] (m * 14)) 56)).heap.size := by rw [World.size_alloc]; omega
  go_loopw [35] (fun i wr => ∃ k : Nat, k ≤ m ∧ i = .int .i64 k ∧ Bel w3 wr ∧ w3.heap.size < wr.heap.size ∧ wr.there (w3.heap.size) 0 (m * 14) ∧ Rws wr (w3.heap.size) 0 k (onlyR Q L)) (fun i _ => m - (intOf i).toNat)
  case atStart => exact ⟨0, by omega, rfl, bl_alloc (bl_refl _) _ _, hz4, made_there _ _ _ _, fun i hi => by omega⟩
  case round =>
    obtain ⟨k, hk, rfl, hB, hz, hth, hRw⟩ := hrel
    clear hmk
    by_cases hlt : k < m
    · have e9 : rs = some ⟨rb, ro, none⟩ := by have := hpm k hlt; rcases hrs with h | h; omega; exact h
      subst e9
      have e8 : sl = some ⟨g2, 0, none⟩ := by rcases hsl with h | h; omega; exact h
      subst e8
      have hkI : (k : Int) < (m : Int) := by omega
      have hnr := hpm k hlt
      have hnI : ((LN L k : Nat) : Int) < (rn : Int) := by omega
      have x0 : wr.cell? ⟨g2, k, none⟩ = some (.int .i64 ((LN L k : Nat) : Int)) := by have h := (hI.bel hB) k hlt; rwa [Nat.zero_add] at h
      have hld : wr.rangeAt rb (ro + LN L k * 14) [.int .i64 (Q (LN L k)).ra, .int .i64 (Q (LN L k)).rb, .float .f64 (Q (LN L k)).r2, .float .f64 (Q (LN L k)).r3, .float .f64 (Q (LN L k)).r4, .float .f64 (Q (LN L k)).r5, .float .f64 (Q (LN L k)).r6, .float .f64 (Q (LN L k)).r7, .float .f64 (Q (LN L k)).r8, .float .f64 (Q (LN L k)).r9, .float .f64 (Q (LN L k)).r10, .float .f64 (Q (LN L k)).r11, .int .i64 (Q (LN L k)).ro, .float .f64 (Q (LN L k)).r13] := ((hr.bel B3).bel hB) _ hnr
      have hts : wr.there (w3.heap.size) (k * 14) 14 := there_sub hth (by omega)
      have B5 : Bel w3 (wr.setCells (w3.heap.size) (k * 14) [.int .i64 (Q (LN L k)).ra, .int .i64 (Q (LN L k)).rb, .float .f64 (Q (LN L k)).r2, .float .f64 (Q (LN L k)).r3, .float .f64 (Q (LN L k)).r4, .float .f64 (Q (LN L k)).r5, .float .f64 (Q (LN L k)).r6, .float .f64 (Q (LN L k)).r7, .float .f64 (Q (LN L k)).r8, .float .f64 (Q (LN L k)).r9, .float .f64 (Q (LN L k)).r10, .float .f64 (Q (LN L k)).r11, .int .i64 (Q (LN L k)).ro, .float .f64 (Q (LN L k)).r13]) := bel_setsJ _ _ hB (Nat.le_refl _)
      have hr5 : (wr.setCells (w3.heap.size) (k * 14) [.int .i64 (Q (LN L k)).ra, .int .i64 (Q (LN L k)).rb, .float .f64 (Q (LN L k)).r2, .float .f64 (Q (LN L k)).r3, .float .f64 (Q (LN L k)).r4, .float .f64 (Q (LN L k)).r5, .float .f64 (Q (LN L k)).r6, .float .f64 (Q (LN L k)).r7, .float .f64 (Q (LN L k)).r8, .float .f64 (Q (LN L k)).r9, .float .f64 (Q (LN L k)).r10, .float .f64 (Q (LN L k)).r11, .int .i64 (Q (LN L k)).ro, .float .f64 (Q (LN L k)).r13]).rangeAt (w3.heap.size) (k * 14) [.int .i64 (Q (LN L k)).ra, .int .i64 (Q (LN L k)).rb, .float .f64 (Q (LN L k)).r2, .float .f64 (Q (LN L k)).r3, .float .f64 (Q (LN L k)).r4, .float .f64 (Q (LN L k)).r5, .float .f64 (Q (LN L k)).r6, .float .f64 (Q (LN L k)).r7, .float .f64 (Q (LN L k)).r8, .float .f64 (Q (LN L k)).r9, .float .f64 (Q (LN L k)).r10, .float .f64 (Q (LN L k)).r11, .int .i64 (Q (LN L k)).ro, .float .f64 (Q (LN L k)).r13] := World.rangeAt_setCells_same _ _ _ _ hts
      have kOf : (wr.setCells (w3.heap.size) (k * 14) [.int .i64 (Q (LN L k)).ra, .int .i64 (Q (LN L k)).rb, .float .f64 (Q (LN L k)).r2, .float .f64 (Q (LN L k)).r3, .float .f64 (Q (LN L k)).r4, .float .f64 (Q (LN L k)).r5, .float .f64 (Q (LN L k)).r6, .float .f64 (Q (LN L k)).r7, .float .f64 (Q (LN L k)).r8, .float .f64 (Q (LN L k)).r9, .float .f64 (Q (LN L k)).r10, .float .f64 (Q (LN L k)).r11, .int .i64 (Q (LN L k)).ro, .float .f64 (Q (LN L k)).r13]).cell? ⟨rb, ro + LN L k * 14 + 12, none⟩ = some (.int .i64 (Q (LN L k)).ro) := ((hr.bel B3).bel B5) _ hnr 12 _ rfl
      have kst : (wr.setCells (w3.heap.size) (k * 14) [.int .i64 (Q (LN L k)).ra, .int .i64 (Q (LN L k)).rb, .float .f64 (Q (LN L k)).r2, .float .f64 (Q (LN L k)).r3, .float .f64 (Q (LN L k)).r4, .float .f64 (Q (LN L k)).r5, .float .f64 (Q (LN L k)).r6, .float .f64 (Q (LN L k)).r7, .float .f64 (Q (LN L k)).r8, .float .f64 (Q (LN L k)).r9, .float .f64 (Q (LN L k)).r10, .float .f64 (Q (LN L k)).r11, .int .i64 (Q (LN L k)).ro, .float .f64 (Q (LN L k)).r13]).cell? ⟨w3.heap.size, k * 14 + 12, none⟩ = some (.int .i64 (Q (LN L k)).ro) := hr5 12 _ rfl
      have hth5 : (wr.setCells (w3.heap.size) (k * 14) [.int .i64 (Q (LN L k)).ra, .int .i64 (Q (LN L k)).rb, .float .f64 (Q (LN L k)).r2, .float .f64 (Q (LN L k)).r3, .float .f64 (Q (LN L k)).r4, .float .f64 (Q (LN L k)).r5, .float .f64 (Q (LN L k)).r6, .float .f64 (Q (LN L k)).r7, .float .f64 (Q (LN L k)).r8, .float .f64 (Q (LN L k)).r9, .float .f64 (Q (LN L k)).r10, .float .f64 (Q (LN L k)).r11, .int .i64 (Q (LN L k)).ro, .float .f64 (Q (LN L k)).r13]).there (w3.heap.size) 0 (m * 14) := World.there_setCells hth _ _ _
      have fst5 : (wr.setCells (w3.heap.size) (k * 14) [.int .i64 (Q (LN L k)).ra, .int .i64 (Q (LN L k)).rb, .float .f64 (Q (LN L k)).r2, .float .f64 (Q (LN L k)).r3, .float .f64 (Q (LN L k)).r4, .float .f64 (Q (LN L k)).r5, .float .f64 (Q (LN L k)).r6, .float .f64 (Q (LN L k)).r7, .float .f64 (Q (LN L k)).r8, .float .f64 (Q (LN L k)).r9, .float .f64 (Q (LN L k)).r10, .float .f64 (Q (LN L k)).r11, .int .i64 (Q (LN L k)).ro, .float .f64 (Q (LN L k)).r13]).frozen? ⟨w3.heap.size, k * 14 + 12, none⟩ = false := by have h := (hth5 (k * 14 + 12) (by omega)).2; rwa [Nat.zero_add] at h
      repeat (first | ((with_reducible show Oper.wp _ { dst := _, op := Op.load 56 _, type := _, pos := _, after := _, guard := _ } _ _ _ _); refine wp_load_mid (P := Try.prog) 56 _ rfl _ _ rfl [.int .i64 (Q (LN L k)).ra, .int .i64 (Q (LN L k)).rb, .float .f64 (Q (LN L k)).r2, .float .f64 (Q (LN L k)).r3, .float .f64 (Q (LN L k)).r4, .float .f64 (Q (LN L k)).r5, .float .f64 (Q (LN L k)).r6, .float .f64 (Q (LN L k)).r7, .float .f64 (Q (LN L k)).r8, .float .f64 (Q (LN L k)).r9, .float .f64 (Q (LN L k)).r10, .float .f64 (Q (LN L k)).r11, .int .i64 (Q (LN L k)).ro, .float .f64 (Q (LN L k)).r13] _ hld Try.underlying56 rfl (by kernel_rfl) ?_; simp only [go_sem]) | ((with_reducible show Oper.wp _ { dst := _, op := Op.store 56 _ _, type := _, pos := _, after := _, guard := _ } _ _ _ _); refine wp_store_mid (P := Try.prog) 56 _ _ rfl (w3.heap.size) (k * 14) #[.int .i64 (Q (LN L k)).ra, .int .i64 (Q (LN L k)).rb, .float .f64 (Q (LN L k)).r2, .float .f64 (Q (LN L k)).r3, .float .f64 (Q (LN L k)).r4, .float .f64 (Q (LN L k)).r5, .float .f64 (Q (LN L k)).r6, .float .f64 (Q (LN L k)).r7, .float .f64 (Q (LN L k)).r8, .float .f64 (Q (LN L k)).r9, .float .f64 (Q (LN L k)).r10, .float .f64 (Q (LN L k)).r11, .int .i64 (Q (LN L k)).ro, .float .f64 (Q (LN L k)).r13] rfl rfl hts (by kernel_rfl) (by kernel_rfl) ?_; simp only [go_sem]) | (go_at_call 64; (with_reducible refine (bsearch_w g2 m c2 _ (fun i => ((LN L i : Nat) : Int)) _ _ hsl hc2 (by omega) (hI.bel B5) hup).mono ?_); rintro e w6 ⟨r, f, hf1, hf2, rfl, hw6⟩; rw [hw6]; cases f) | go_values | go_skip | go_guarded | go_step | go_upon | go_back | dsimp only)
      all_goals
        repeat (first | go_values | go_skip | go_guarded | go_step | go_upon | go_back | dsimp only)
        refine ⟨⟨k + 1, by omega, by go_num, bel_set1 B5 (Nat.le_refl _), by rw [size_set, size_setsJ]; exact hz, there_set hth5, ?_⟩, by simp [intOf]; omega⟩
      · have ep : posI L (Q (LN L k)).ro = -1 := pos_no (fun i hi => hf2 rfl i (by omega))
        exact rws_next hRw (by have h := rng_set12 (t := -1) hr5; unfold onlyR; rw [ep]; exact h) hz
      · obtain ⟨hf3, hf4⟩ := hf1 rfl
        have ep : posI L (Q (LN L k)).ro = (r : Int) := pos_yes hpu (by omega) hf4
        exact rws_next hRw (by have h := rng_set12 (t := (r : Int)) hr5; unfold onlyR; rw [ep]; exact h) hz
    · have hkn : k = m := by omega
      subst hkn
      repeat (first | go_values | go_skip | go_guarded | go_step | go_upon | go_back | dsimp only)
      refine bodyPost_ret (v := .tuple #[.slice (some ⟨w3.heap.size, 0, none⟩) k k, .slice sl k c2, .int .i64 0]) (by kernel_rfl) rfl ?_
      rw [eL]
      exact ⟨w3.heap.size, k, _, em.symm, B3.size, hRw, hth, (hO.base9 hb.size).bel hB, fun gg cp e h0 => by
        injection e with e1
        rcases hsl with h | h
        · omega
        · rw [h] at e1
          injection e1 with e2
          injection e2 with e3
          subst e3
          exact World.block_lt_of_cell? w3 _ (hI 0 h0), rfl, bl_trans B3 hB⟩

/-- what Apart answers -/
def axB (Q : Nat → RD) (rn : Nat) (Q2 : Nat → RD) (qn : Nat) (S : Nat → SD) (sn : Nat) : Bool := if asE Q rn S sn = 0 then (if asE Q2 qn S sn = 0 then apB Q rn Q2 qn S else false) else false
def axE (Q : Nat → RD) (rn : Nat) (Q2 : Nat → RD) (qn : Nat) (S : Nat → SD) (sn : Nat) : Int := if asE Q rn S sn = 0 then asE Q2 qn S sn else asE Q rn S sn

theorem apart_all (rb ro rn rc_ : Nat) (rs : Option Addr) (Q : Nat → RD) (qb qo qn qc_ : Nat) (qs : Option Addr) (Q2 : Nat → RD) (sb so sn sc_ : Nat) (ss : Option Addr) (S : Nat → SD) (w : World) (hrs : rn = 0 ∨ rs = some ⟨rb, ro, none⟩) (hrc : rn ≤ rc_) (hrm : rc_ ≤ maxLen) (hr : Rws w rb ro rn Q) (or_ : ∀ i, i < rn → rok (Q i)) (hqs : qn = 0 ∨ qs = some ⟨qb, qo, none⟩) (hqc : qn ≤ qc_) (hqm : qc_ ≤ maxLen) (hq : Rws w qb qo qn Q2) (oq_ : ∀ i, i < qn → rok (Q2 i)) (hss : sn = 0 ∨ ss = some ⟨sb, so, none⟩) (hsc : sn ≤ sc_) (hsm : sc_ ≤ maxLen) (hs : Sts w sb so sn S) (os : ∀ i, i < sn → sok (S i)) : Calls Try.prog 10 #[.slice rs rn rc_, .slice qs qn qc_, .slice ss sn sc_] w fun e w' => e = .returned (.tuple #[.bool (axB Q rn Q2 qn S sn), .int .i64 (axE Q rn Q2 qn S sn)]) ∧ Bel w w' := by
  unfold axB axE
  by_cases h1 : asE Q rn S sn = 0
  · rw [if_pos h1, if_pos h1]
    by_cases h2 : asE Q2 qn S sn = 0
    · rw [if_pos h2, h2]
      exact apart_ok rb ro rn rc_ rs Q qb qo qn qc_ qs Q2 sb so sn sc_ ss S w hrs hrc hrm hr or_ hqs hqc hqm hq oq_ hss hsc hsm hs os h1 h2
    · rw [if_neg h2]
      exact apart_bad2 rb ro rn rc_ rs Q qb qo qn qc_ qs Q2 sb so sn sc_ ss S w hrs hrc hrm hr or_ hqs hqc hqm hq oq_ hss hsc hsm hs os h1 _ rfl h2
  · rw [if_neg h1, if_neg h1]
    exact apart_bad1 rb ro rn rc_ rs Q qb qo qn qc_ qs Q2 sb so sn sc_ ss S w hrs hrc hrm hr or_ hqs hqc hqm hq oq_ hss hsc hsm hs os _ rfl h1

theorem rapart_all (rb ro rn rc_ : Nat) (rs : Option Addr) (Q : Nat → RD) (qb qo qn qc_ : Nat) (qs : Option Addr) (Q2 : Nat → RD) (sb so sn sc_ : Nat) (ss : Option Addr) (S : Nat → SD) (w : World) (hrs : rn = 0 ∨ rs = some ⟨rb, ro, none⟩) (hrc : rn ≤ rc_) (hrm : rc_ ≤ maxLen) (hr : Rws w rb ro rn Q) (or_ : ∀ i, i < rn → rok (Q i)) (hqs : qn = 0 ∨ qs = some ⟨qb, qo, none⟩) (hqc : qn ≤ qc_) (hqm : qc_ ≤ maxLen) (hq : Rws w qb qo qn Q2) (oq_ : ∀ i, i < qn → rok (Q2 i)) (hss : sn = 0 ∨ ss = some ⟨sb, so, none⟩) (hsc : sn ≤ sc_) (hsm : sc_ ≤ maxLen) (hs : Sts w sb so sn S) (os : ∀ i, i < sn → sok (S i)) : Calls Try.prog 27 #[.slice rs rn rc_, .slice qs qn qc_, .slice ss sn sc_] w fun e w' => e = .returned (.tuple #[.bool (axB Q rn Q2 qn S sn), .int .i64 (axE Q rn Q2 qn S sn)]) ∧ Bel w w' := by
  unfold axB axE
  by_cases h1 : asE Q rn S sn = 0
  · rw [if_pos h1, if_pos h1]
    by_cases h2 : asE Q2 qn S sn = 0
    · rw [if_pos h2, h2]
      exact rapart_ok rb ro rn rc_ rs Q qb qo qn qc_ qs Q2 sb so sn sc_ ss S w hrs hrc hrm hr or_ hqs hqc hqm hq oq_ hss hsc hsm hs os h1 h2
    · rw [if_neg h2]
      exact rapart_bad2 rb ro rn rc_ rs Q qb qo qn qc_ qs Q2 sb so sn sc_ ss S w hrs hrc hrm hr or_ hqs hqc hqm hq oq_ hss hsc hsm hs os h1 _ rfl h2
  · rw [if_neg h1, if_neg h1]
    exact rapart_bad1 rb ro rn rc_ rs Q qb qo qn qc_ qs Q2 sb so sn sc_ ss S w hrs hrc hrm hr or_ hqs hqc hqm hq oq_ hss hsc hsm hs os _ rfl h1

end Go.Proofs.Ytchfgaooogfkdaa
