/-
  What each function of package poly answers, and what the reference of its chapter answers: one contract a function, for every float: the answer stands in the relation of its formula to what was given; of the memory that was there nothing has turned.
-/
import Derived.Test.YtfohggiehbplkaaVec
import Derived.Test.YtfohggiehbplkaaXb
import Derived.Test.YtfohggiehbplkaaKnot
import Derived.Below
import Derived.OwnWalk
import Derived.Laws.AppendOwn
import Derived.Lib.SliceRun
import Derived.Laws.MakeOwn
import Derived.WalkKit
import Derived.WalkLawsBesides
import Derived.WalkSpells
import Derived.ProofKit
import Derived.OpenShut
import Derived.Deep.RegionHeld3
namespace Go.Proofs.Ytfohggiehbplkaa
open Go.ChangeShapes Go.WideShapes Go.ChangeAt Go.RowKit
set_option linter.unusedVariables false
set_option linter.unusedSimpArgs false


theorem Ownr.base {w W W' : World} {v : Value} {n : Nat} {Q : Nat → RD} (h : Ownr W W' v n Q) (g : w.heap.size ≤ W.heap.size) : Ownr w W' v n Q := by
 obtain ⟨a, b, c, h1, h2, h3, h4, h5, h6⟩ := h
 exact ⟨a, b, c, h1, h2, h3, h4, Nat.le_trans g h5, h6⟩
theorem Ownr.bel {w W W' : World} {v : Value} {n : Nat} {Q : Nat → RD} (h : Ownr w W v n Q) (g : Bel W W') : Ownr w W' v n Q := by
 obtain ⟨a, b, c, h1, h2, h3, h4, h5, h6, h7⟩ := h
 exact ⟨a, b, c, h1, h2, h3, h4, h5, h6.bel g, bel_there h7 g⟩
theorem Ownr.sets {w W : World} {v : Value} {n q : Nat} {Q : Nat → RD} {cs : List Value} (h : Ownr w W v n Q) (hq : q < w.heap.size) : Ownr w (W.setCells q 0 cs) v n Q := by
 obtain ⟨a, b, c, h1, h2, h3, h4, h5, h6, h7⟩ := h
 refine ⟨a, b, c, h1, h2, h3, h4, h5, fun i hi => ?_, World.there_setCells h7 _ _ _⟩
 exact World.rangeAt_setCells_apart (h6 i hi) _ _ _ (.inl (by omega))

theorem Owns.base {w W W' : World} {v : Value} {n : Nat} {Q : Nat → SD} (h : Owns W W' v n Q) (g : w.heap.size ≤ W.heap.size) : Owns w W' v n Q := by
 obtain ⟨a, b, c, h1, h2, h3, h4, h5, h6⟩ := h
 exact ⟨a, b, c, h1, h2, h3, h4, Nat.le_trans g h5, h6⟩
theorem Owns.bel {w W W' : World} {v : Value} {n : Nat} {Q : Nat → SD} (h : Owns w W v n Q) (g : Bel W W') : Owns w W' v n Q := by
 obtain ⟨a, b, c, h1, h2, h3, h4, h5, h6, h7⟩ := h
 exact ⟨a, b, c, h1, h2, h3, h4, h5, h6.bel g, bel_there h7 g⟩
theorem Owns.sets {w W : World} {v : Value} {n q : Nat} {Q : Nat → SD} {cs : List Value} (h : Owns w W v n Q) (hq : q < w.heap.size) : Owns w (W.setCells q 0 cs) v n Q := by
 obtain ⟨a, b, c, h1, h2, h3, h4, h5, h6, h7⟩ := h
 refine ⟨a, b, c, h1, h2, h3, h4, h5, fun i hi => ?_, World.there_setCells h7 _ _ _⟩
 exact World.rangeAt_setCells_apart (h6 i hi) _ _ _ (.inl (by omega))

set_option maxRecDepth 100000 in
set_option maxHeartbeats 4000000 in
theorem copied_w (rb ro rn rc_ : Nat) (rs : Option Addr) (Q : Nat → RD) (sb so sn sc_ : Nat) (ss : Option Addr) (S : Nat → SD) (w : World) (hrs : rn = 0 ∨ rs = some ⟨rb, ro, none⟩) (hrc : rn ≤ rc_) (hrm : rc_ ≤ maxLen) (hr : Rws w rb ro rn Q) (or_ : ∀ i, i < rn → rok (Q i)) (hss : sn = 0 ∨ ss = some ⟨sb, so, none⟩) (hsc : sn ≤ sc_) (hsm : sc_ ≤ maxLen) (hs : Sts w sb so sn S) (os : ∀ i, i < sn → sok (S i)) (hl1 : rn ≤ 1048576) (hl2 : sn ≤ 1024) : Calls Try.prog 72 #[.agg #[.slice rs rn rc_, .slice ss sn sc_]] w fun e w' => ∃ v1 v2, Ownr w w' v1 rn Q ∧ Owns w w' v2 sn S ∧ e = .returned (.agg #[v1, v2]) ∧ Bel w w' := by
 have B0 : Bel w ((w.alloc (.cells #[.slice rs rn rc_, .slice ss sn sc_] 116)).alloc (.cells #[.slice none 0 0, .slice none 0 0] 116)) := bl_alloc (bl_alloc (bl_refl w) _ _) _ _
 have hT0 : ((w.alloc (.cells #[.slice rs rn rc_, .slice ss sn sc_] 116)).alloc (.cells #[.slice none 0 0, .slice none 0 0] 116)).rangeAt (w.heap.size) 0 [.slice rs rn rc_, .slice ss sn sc_] := World.rangeAt_alloc (rng_new w [.slice rs rn rc_, .slice ss sn sc_] 116) _
 have hT1 : ((w.alloc (.cells #[.slice rs rn rc_, .slice ss sn sc_] 116)).alloc (.cells #[.slice none 0 0, .slice none 0 0] 116)).there (w.heap.size + 1) 0 2 := by have h := there_new (w.alloc (.cells #[.slice rs rn rc_, .slice ss sn sc_] 116)) [.slice none 0 0, .slice none 0 0] 116; rwa [World.size_alloc] at h
 have hz2 : ((w.alloc (.cells #[.slice rs rn rc_, .slice ss sn sc_] 116)).alloc (.cells #[.slice none 0 0, .slice none 0 0] 116)).heap.size = w.heap.size + 1 + 1 := by simp only [World.size_alloc]
 have k0 : ((w.alloc (.cells #[.slice rs rn rc_, .slice ss sn sc_] 116)).alloc (.cells #[.slice none 0 0, .slice none 0 0] 116)).cell? ⟨w.heap.size, 0, none⟩ = some (.slice rs rn rc_) := hT0 0 _ rfl
 have k1 : ((w.alloc (.cells #[.slice rs rn rc_, .slice ss sn sc_] 116)).alloc (.cells #[.slice none 0 0, .slice none 0 0] 116)).cell? ⟨w.heap.size, 1, none⟩ = some (.slice ss sn sc_) := hT0 1 _ rfl
 go_enter Try.func72, Try.ntmps72
 go_wp2
 refine wp_region_monoT 7 (fun i W v => match i with | 0 => v = .pointer (some ⟨w.heap.size, 0, none⟩) | 1 => v = .slice rs rn rc_ | 2 => Ownr ((w.alloc (.cells #[.slice rs rn rc_, .slice ss sn sc_] 116)).alloc (.cells #[.slice none 0 0, .slice none 0 0] 116)) W v rn Q | 3 => v = .pointer (some ⟨w.heap.size, 1, none⟩) | 4 => v = .slice ss sn sc_ | 5 => Owns ((w.alloc (.cells #[.slice rs rn rc_, .slice ss sn sc_] 116)).alloc (.cells #[.slice none 0 0, .slice none 0 0] 116)) W v sn S | 6 => ∃ v1 v2, Ownr ((w.alloc (.cells #[.slice rs rn rc_, .slice ss sn sc_] 116)).alloc (.cells #[.slice none 0 0, .slice none 0 0] 116)) W v1 rn Q ∧ Owns ((w.alloc (.cells #[.slice rs rn rc_, .slice ss sn sc_] 116)).alloc (.cells #[.slice none 0 0, .slice none 0 0] 116)) W v2 sn S ∧ v = .agg #[v1, v2] | _ => False) ?A_wt (by kernel_rfl) (by kernel_rfl) ?hA_wt ?hmo_wt ?hq_wt [7] rfl ?ht_wt
 case hA_wt =>
  intro s
  simp only [putL, dstO, Act.put, List.getElem?_toArray, List.getElem?_cons_zero, List.getElem?_cons_succ, Option.bind_some, List.setIfInBounds_toArray, List.set_cons_zero, List.set_cons_succ, if_true]
  all_goals exact rfl
 case hmo_wt =>
  intro i W W' v hi hb h
  rcases (show i = 0 ∨ i = 1 ∨ i = 2 ∨ i = 3 ∨ i = 4 ∨ i = 5 ∨ i = 6 by omega) with rfl | rfl | rfl | rfl | rfl | rfl | rfl
  all_goals first | exact h | exact h.bel hb | (obtain ⟨v1, v2, q1, q2, q3⟩ := h; exact ⟨v1, v2, q1.bel hb, q2.bel hb, q3⟩)
 case hq_wt =>
  intro i o hi ho s W hs hb K hK
  have u0 := keep hb k0; have u1 := keep hb k1
  rcases (show i = 0 ∨ i = 1 ∨ i = 2 ∨ i = 3 ∨ i = 4 ∨ i = 5 ∨ i = 6 by omega) with rfl | rfl | rfl | rfl | rfl | rfl | rfl
  ·cases ho
   simp only [Act.put, List.setIfInBounds_toArray, List.set_cons_zero, List.set_cons_succ] at hK
   clear hs
   go_simp
   all_goals (try go_wp2_with (first | (go_at_call 115; (with_reducible refine (cloneR_w rb ro rn rc_ rs Q _ hrs hrc hrm (hr.bel (bl_trans B0 hb)) or_ hl1).mono ?_); rintro e w' ⟨v9, hv9, rfl, hb1⟩; replace hv9 := hv9.base hb.size) | (go_at_call 116; (with_reducible refine (cloneS_w sb so sn sc_ ss S _ hss hsc hsm (hs.bel (bl_trans B0 hb)) os hl2).mono ?_); rintro e w' ⟨v9, hv9, rfl, hb1⟩; replace hv9 := hv9.base hb.size)))
   all_goals first | exact hK.out _ _ hv9 hb1 | exact hK.out _ _ rfl (bl_refl _) | exact hK.out _ _ rfl (by assumption) | exact hK.out _ _ (by assumption) (by assumption)
  ·cases ho
   have e0 : s 0 = _ := hs 0 (by decide) (by kernel_rfl)
   simp only [e0] at hK ⊢
   simp only [Act.put, List.setIfInBounds_toArray, List.set_cons_zero, List.set_cons_succ] at hK
   clear hs
   go_simp
   all_goals (try go_wp2_with (first | (go_at_call 115; (with_reducible refine (cloneR_w rb ro rn rc_ rs Q _ hrs hrc hrm (hr.bel (bl_trans B0 hb)) or_ hl1).mono ?_); rintro e w' ⟨v9, hv9, rfl, hb1⟩; replace hv9 := hv9.base hb.size) | (go_at_call 116; (with_reducible refine (cloneS_w sb so sn sc_ ss S _ hss hsc hsm (hs.bel (bl_trans B0 hb)) os hl2).mono ?_); rintro e w' ⟨v9, hv9, rfl, hb1⟩; replace hv9 := hv9.base hb.size)))
   all_goals first | exact hK.out _ _ hv9 hb1 | exact hK.out _ _ rfl (bl_refl _) | exact hK.out _ _ rfl (by assumption) | exact hK.out _ _ (by assumption) (by assumption)
  ·cases ho
   have e1 : s 1 = _ := hs 1 (by decide) (by kernel_rfl)
   simp only [e1] at hK ⊢
   simp only [Act.put, List.setIfInBounds_toArray, List.set_cons_zero, List.set_cons_succ] at hK
   clear hs
   go_simp
   all_goals (try go_wp2_with (first | (go_at_call 115; (with_reducible refine (cloneR_w rb ro rn rc_ rs Q _ hrs hrc hrm (hr.bel (bl_trans B0 hb)) or_ hl1).mono ?_); rintro e w' ⟨v9, hv9, rfl, hb1⟩; replace hv9 := hv9.base hb.size) | (go_at_call 116; (with_reducible refine (cloneS_w sb so sn sc_ ss S _ hss hsc hsm (hs.bel (bl_trans B0 hb)) os hl2).mono ?_); rintro e w' ⟨v9, hv9, rfl, hb1⟩; replace hv9 := hv9.base hb.size)))
   all_goals first | exact hK.out _ _ hv9 hb1 | exact hK.out _ _ rfl (bl_refl _) | exact hK.out _ _ rfl (by assumption) | exact hK.out _ _ (by assumption) (by assumption)
  ·cases ho
   simp only [Act.put, List.setIfInBounds_toArray, List.set_cons_zero, List.set_cons_succ] at hK
   clear hs
   go_simp
   all_goals (try go_wp2_with (first | (go_at_call 115; (with_reducible refine (cloneR_w rb ro rn rc_ rs Q _ hrs hrc hrm (hr.bel (bl_trans B0 hb)) or_ hl1).mono ?_); rintro e w' ⟨v9, hv9, rfl, hb1⟩; replace hv9 := hv9.base hb.size) | (go_at_call 116; (with_reducible refine (cloneS_w sb so sn sc_ ss S _ hss hsc hsm (hs.bel (bl_trans B0 hb)) os hl2).mono ?_); rintro e w' ⟨v9, hv9, rfl, hb1⟩; replace hv9 := hv9.base hb.size)))
   all_goals first | exact hK.out _ _ hv9 hb1 | exact hK.out _ _ rfl (bl_refl _) | exact hK.out _ _ rfl (by assumption) | exact hK.out _ _ (by assumption) (by assumption)
  ·cases ho
   have e3 : s 3 = _ := hs 3 (by decide) (by kernel_rfl)
   simp only [e3] at hK ⊢
   simp only [Act.put, List.setIfInBounds_toArray, List.set_cons_zero, List.set_cons_succ] at hK
   clear hs
   go_simp
   all_goals (try go_wp2_with (first | (go_at_call 115; (with_reducible refine (cloneR_w rb ro rn rc_ rs Q _ hrs hrc hrm (hr.bel (bl_trans B0 hb)) or_ hl1).mono ?_); rintro e w' ⟨v9, hv9, rfl, hb1⟩; replace hv9 := hv9.base hb.size) | (go_at_call 116; (with_reducible refine (cloneS_w sb so sn sc_ ss S _ hss hsc hsm (hs.bel (bl_trans B0 hb)) os hl2).mono ?_); rintro e w' ⟨v9, hv9, rfl, hb1⟩; replace hv9 := hv9.base hb.size)))
   all_goals first | exact hK.out _ _ hv9 hb1 | exact hK.out _ _ rfl (bl_refl _) | exact hK.out _ _ rfl (by assumption) | exact hK.out _ _ (by assumption) (by assumption)
  ·cases ho
   have e4 : s 4 = _ := hs 4 (by decide) (by kernel_rfl)
   simp only [e4] at hK ⊢
   simp only [Act.put, List.setIfInBounds_toArray, List.set_cons_zero, List.set_cons_succ] at hK
   clear hs
   go_simp
   all_goals (try go_wp2_with (first | (go_at_call 115; (with_reducible refine (cloneR_w rb ro rn rc_ rs Q _ hrs hrc hrm (hr.bel (bl_trans B0 hb)) or_ hl1).mono ?_); rintro e w' ⟨v9, hv9, rfl, hb1⟩; replace hv9 := hv9.base hb.size) | (go_at_call 116; (with_reducible refine (cloneS_w sb so sn sc_ ss S _ hss hsc hsm (hs.bel (bl_trans B0 hb)) os hl2).mono ?_); rintro e w' ⟨v9, hv9, rfl, hb1⟩; replace hv9 := hv9.base hb.size)))
   all_goals first | exact hK.out _ _ hv9 hb1 | exact hK.out _ _ rfl (bl_refl _) | exact hK.out _ _ rfl (by assumption) | exact hK.out _ _ (by assumption) (by assumption)
  ·cases ho
   obtain h2 := hs 2 (by decide) (by kernel_rfl)
   obtain h5 := hs 5 (by decide) (by kernel_rfl)
   simp only [Act.put, List.setIfInBounds_toArray, List.set_cons_zero, List.set_cons_succ] at hK
   clear hs
   obtain ⟨g1, c1, a1, e2, p1⟩ := h2
   obtain ⟨g2, c2, a2, e5, p2⟩ := h5
   simp only [e2, e5] at hK ⊢
   refine wp_build 116 _ rfl (.agg #[.slice a1 rn c1, .slice a2 sn c2]) (by kernel_rfl) ?_
   exact hK.out _ _ ⟨_, _, ⟨g1, c1, a1, rfl, p1⟩, ⟨g2, c2, a2, rfl, p2⟩, rfl⟩ (bl_refl _)
 case ht_wt =>
  intro s W hs hb
  have e0 : s 0 = _ := hs 0 (by decide)
  have e1 : s 1 = _ := hs 1 (by decide)
  obtain h2 := hs 2 (by decide)
  have e3 : s 3 = _ := hs 3 (by decide)
  have e4 : s 4 = _ := hs 4 (by decide)
  obtain h5 := hs 5 (by decide)
  obtain ⟨v1, v2, h9a, h9b, e6⟩ := hs 6 (by decide)
  simp only [e0, e1, e3, e4, e6]
  clear hs e0 e1 e3 e4 e6
  obtain ⟨g1, c1, a1, rfl, p1⟩ := h9a
  obtain ⟨g2, c2, a2, rfl, p2⟩ := h9b
  have hth := bel_there hT1 hb
  refine tail_step rfl (fun K hK => ?_)
  rw [if_pos (by kernel_rfl)]
  refine wp_store_mid (P := Try.prog) 116 _ _ rfl (w.heap.size + 1) 0 #[.slice a1 rn c1, .slice a2 sn c2] rfl rfl hth (by kernel_rfl) (by kernel_rfl) ?_
  refine hK.out _ _ ?_
  clear hK K
  refine tail_end ?_
  have B9 : Bel w (W.setCells (w.heap.size + 1) 0 [.slice a1 rn c1, .slice a2 sn c2]) := bel_setsJ _ _ (bl_trans B0 hb) (by omega)
  have q1 : Ownr w (W.setCells (w.heap.size + 1) 0 [.slice a1 rn c1, .slice a2 sn c2]) (.slice a1 rn c1) rn Q := (Ownr.sets ⟨g1, c1, a1, rfl, p1⟩ (by rw [hz2]; omega)).base B0.size
  have q2 : Owns w (W.setCells (w.heap.size + 1) 0 [.slice a1 rn c1, .slice a2 sn c2]) (.slice a2 sn c2) sn S := (Owns.sets ⟨g2, c2, a2, rfl, p2⟩ (by rw [hz2]; omega)).base B0.size
  have hL := World.rangeAt_setCells_same _ _ _ [.slice a1 rn c1, .slice a2 sn c2] hth
  go_wp2
  refine bodyPost_ret (results_c (c := 2) (ty := 116) rfl rfl (run_loadVar_mid _ (w.heap.size + 1) 0 116 [.slice a1 rn c1, .slice a2 sn c2] _ hL Try.underlying116 rfl (by kernel_rfl))) rfl ?_
  first | exact ⟨_, q1, _, q2, rfl, B9⟩ | exact ⟨_, _, q1, q2, rfl, B9⟩

end Go.Proofs.Ytfohggiehbplkaa
