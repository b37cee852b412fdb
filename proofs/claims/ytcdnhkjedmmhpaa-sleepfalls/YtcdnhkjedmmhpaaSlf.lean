/-
  What each function of package poly answers, and what the reference of its chapter answers: one contract a function, for every float: the answer stands in the relation of its formula to what was given; of the memory that was there nothing has turned.
-/
import Derived.Test.YtcdnhkjedmmhpaaVec
import Derived.Test.YtcdnhkjedmmhpaaSle
import Derived.Test.YtcdnhkjedmmhpaaOncM
import Derived.Below
import Derived.WalkKit
import Derived.WalkLawsBesides
import Derived.WalkSpells
import Derived.ProofKit
import Derived.OpenShut
import Derived.Deep.RegionHeld3
namespace Go.Proofs.Ytcdnhkjedmmhpaa
open Go.ChangeShapes Go.WideShapes Go.ChangeAt Go.RowKit
set_option linter.unusedVariables false
set_option linter.unusedSimpArgs false


theorem Owns.base {w W W' : World} {v : Value} {n : Nat} {S : Nat → SL} (h : Owns W W' v n S) (g : w.heap.size ≤ W.heap.size) : Owns w W' v n S := by
  obtain ⟨a, b, c, h1, h2, h3, h4, h5, h6⟩ := h
  exact ⟨a, b, c, h1, h2, h3, h4, Nat.le_trans g h5, h6⟩
theorem Owns.bel {w W W' : World} {v : Value} {n : Nat} {S : Nat → SL} (h : Owns w W v n S) (g : Bel W W') : Owns w W' v n S := by
  obtain ⟨a, b, c, h1, h2, h3, h4, h5, h6, h7⟩ := h
  exact ⟨a, b, c, h1, h2, h3, h4, h5, h6.bel g, bel_there h7 g⟩
theorem cellsV_agg {l cs : List Value} (h : cellsV (.agg l.toArray) cs) (hn : cs.length ≠ 1) : cs = l := by
  rcases h with h | h
  · injection h with h
    have := congrArg Array.toList h
    simpa using this.symm
  · rw [h] at hn; simp at hn
theorem there_sub {w : World} {b N o n : Nat} (h : w.there b 0 N) (g : o + n ≤ N) : w.there b o n := fun j hj => by
  have h1 := h (o + j) (by omega)
  rwa [Nat.zero_add] at h1
theorem sls_same {W5 W : World} {g n k : Nat} {S : Nat → SL} (hS : Sls W5 g 0 n S) (hk : k < n) (hb : W.rangeAt g (k * 18 + 2) [.int .u8 (S k).k, .float .f64 0, .float .f64 0, .complex .f64 0 0, .float .f64 0, .float .f64 0, .float .f64 0, .float .f64 0, .float .f64 0, .float .f64 0, .float .f64 0, .float .f64 0, .slice none 0 0, .bool (S k).a, .int .i64 (S k).c, .bool false]) (hout : ∀ q, ¬ (k * 18 + 2 ≤ q ∧ q < k * 18 + 18) → W.cell? ⟨g, q, none⟩ = W5.cell? ⟨g, q, none⟩) : Sls W g 0 n S := fun i hi j v hj => by
  have hj18 : j < 18 := (List.getElem?_eq_some_iff.1 hj).1
  rw [Nat.zero_add]
  by_cases e : i = k ∧ 2 ≤ j
  · obtain ⟨rfl, h2⟩ := e
    obtain ⟨m, rfl⟩ : ∃ m, j = m + 2 := ⟨j - 2, by omega⟩
    have h1 := hb m v hj
    rw [show i * 18 + (m + 2) = i * 18 + 2 + m by omega]
    exact h1
  · have h1 := hS i hi j v hj
    rw [Nat.zero_add] at h1
    rw [hout _ (by omega)]
    exact h1

set_option maxRecDepth 100000 in
set_option maxHeartbeats 4000000 in
theorem twin_w (cs : Int) (sb so sn sc_ : Nat) (ss : Option Addr) (S : Nat → SL) (w : World) (hss : sn = 0 ∨ ss = some ⟨sb, so, none⟩) (hsc : sn ≤ sc_) (hsm : sc_ ≤ maxLen) (hs : Sls w sb so sn S) (hn1 : 1 ≤ sn) (hn1024 : sn ≤ 1024) : Calls Try.prog 46 #[.agg #[.float .f64 0, .float .f64 0, .float .f64 0, .int .i64 0, .float .f64 0, .float .f64 0, .float .f64 0, .float .f64 4607182418800017408, .float .f64 4607182418800017408, .int .i64 cs, .slice ss sn sc_, .slice none 0 0, .slice none 0 0, .int .i64 0]] w fun e w' => ∃ g cap, sn ≤ cap ∧ cap ≤ maxLen ∧ w.heap.size ≤ g ∧ Sls w' g 0 sn S ∧ w'.there g 0 (sn * 18) ∧ e = .returned (.agg #[.float .f64 0, .float .f64 0, .float .f64 0, .int .i64 0, .float .f64 0, .float .f64 0, .float .f64 0, .float .f64 4607182418800017408, .float .f64 4607182418800017408, .int .i64 cs, (.slice (some ⟨g, 0, none⟩) sn cap), .slice none 0 0, .slice none 0 0, .int .i64 0]) ∧ Bel w w' := by
  have hT : ((w.alloc (.cells #[.float .f64 0, .float .f64 0, .float .f64 0, .int .i64 0, .float .f64 0, .float .f64 0, .float .f64 0, .float .f64 4607182418800017408, .float .f64 4607182418800017408, .int .i64 cs, .slice ss sn sc_, .slice none 0 0, .slice none 0 0, .int .i64 0] 31)).alloc (.cells #[.float .f64 0, .float .f64 0, .float .f64 0, .int .i64 0, .float .f64 0, .float .f64 0, .float .f64 0, .float .f64 0, .float .f64 0, .int .i64 0, .slice none 0 0, .slice none 0 0, .slice none 0 0, .int .i64 0] 31)).rangeAt (w.heap.size) 0 [.float .f64 0, .float .f64 0, .float .f64 0, .int .i64 0, .float .f64 0, .float .f64 0, .float .f64 0, .float .f64 4607182418800017408, .float .f64 4607182418800017408, .int .i64 cs, .slice ss sn sc_, .slice none 0 0, .slice none 0 0, .int .i64 0] := World.rangeAt_alloc (rng_new w [.float .f64 0, .float .f64 0, .float .f64 0, .int .i64 0, .float .f64 0, .float .f64 0, .float .f64 0, .float .f64 4607182418800017408, .float .f64 4607182418800017408, .int .i64 cs, .slice ss sn sc_, .slice none 0 0, .slice none 0 0, .int .i64 0] 31) _
  have hTt : ((w.alloc (.cells #[.float .f64 0, .float .f64 0, .float .f64 0, .int .i64 0, .float .f64 0, .float .f64 0, .float .f64 0, .float .f64 4607182418800017408, .float .f64 4607182418800017408, .int .i64 cs, .slice ss sn sc_, .slice none 0 0, .slice none 0 0, .int .i64 0] 31)).alloc (.cells #[.float .f64 0, .float .f64 0, .float .f64 0, .int .i64 0, .float .f64 0, .float .f64 0, .float .f64 0, .float .f64 0, .float .f64 0, .int .i64 0, .slice none 0 0, .slice none 0 0, .slice none 0 0, .int .i64 0] 31)).there (w.heap.size) 0 14 := World.there_alloc (there_new w [.float .f64 0, .float .f64 0, .float .f64 0, .int .i64 0, .float .f64 0, .float .f64 0, .float .f64 0, .float .f64 4607182418800017408, .float .f64 4607182418800017408, .int .i64 cs, .slice ss sn sc_, .slice none 0 0, .slice none 0 0, .int .i64 0] 31) _
  have hU : ((w.alloc (.cells #[.float .f64 0, .float .f64 0, .float .f64 0, .int .i64 0, .float .f64 0, .float .f64 0, .float .f64 0, .float .f64 4607182418800017408, .float .f64 4607182418800017408, .int .i64 cs, .slice ss sn sc_, .slice none 0 0, .slice none 0 0, .int .i64 0] 31)).alloc (.cells #[.float .f64 0, .float .f64 0, .float .f64 0, .int .i64 0, .float .f64 0, .float .f64 0, .float .f64 0, .float .f64 0, .float .f64 0, .int .i64 0, .slice none 0 0, .slice none 0 0, .slice none 0 0, .int .i64 0] 31)).there (w.heap.size + 1) 0 14 := by have h := there_new (w.alloc (.cells #[.float .f64 0, .float .f64 0, .float .f64 0, .int .i64 0, .float .f64 0, .float .f64 0, .float .f64 0, .float .f64 4607182418800017408, .float .f64 4607182418800017408, .int .i64 cs, .slice ss sn sc_, .slice none 0 0, .slice none 0 0, .int .i64 0] 31)) [.float .f64 0, .float .f64 0, .float .f64 0, .int .i64 0, .float .f64 0, .float .f64 0, .float .f64 0, .float .f64 0, .float .f64 0, .int .i64 0, .slice none 0 0, .slice none 0 0, .slice none 0 0, .int .i64 0] 31; rwa [World.size_alloc] at h
  have hz2 : ((w.alloc (.cells #[.float .f64 0, .float .f64 0, .float .f64 0, .int .i64 0, .float .f64 0, .float .f64 0, .float .f64 0, .float .f64 4607182418800017408, .float .f64 4607182418800017408, .int .i64 cs, .slice ss sn sc_, .slice none 0 0, .slice none 0 0, .int .i64 0] 31)).alloc (.cells #[.float .f64 0, .float .f64 0, .float .f64 0, .int .i64 0, .float .f64 0, .float .f64 0, .float .f64 0, .float .f64 0, .float .f64 0, .int .i64 0, .slice none 0 0, .slice none 0 0, .slice none 0 0, .int .i64 0] 31)).heap.size = w.heap.size + 1 + 1 := by simp only [World.size_alloc]
  have B0 : Bel w ((w.alloc (.cells #[.float .f64 0, .float .f64 0, .float .f64 0, .int .i64 0, .float .f64 0, .float .f64 0, .float .f64 0, .float .f64 4607182418800017408, .float .f64 4607182418800017408, .int .i64 cs, .slice ss sn sc_, .slice none 0 0, .slice none 0 0, .int .i64 0] 31)).alloc (.cells #[.float .f64 0, .float .f64 0, .float .f64 0, .int .i64 0, .float .f64 0, .float .f64 0, .float .f64 0, .float .f64 0, .float .f64 0, .int .i64 0, .slice none 0 0, .slice none 0 0, .slice none 0 0, .int .i64 0] 31)) := bl_alloc (bl_alloc (bl_refl w) _ _) _ _
  have k10 : ((w.alloc (.cells #[.float .f64 0, .float .f64 0, .float .f64 0, .int .i64 0, .float .f64 0, .float .f64 0, .float .f64 0, .float .f64 4607182418800017408, .float .f64 4607182418800017408, .int .i64 cs, .slice ss sn sc_, .slice none 0 0, .slice none 0 0, .int .i64 0] 31)).alloc (.cells #[.float .f64 0, .float .f64 0, .float .f64 0, .int .i64 0, .float .f64 0, .float .f64 0, .float .f64 0, .float .f64 0, .float .f64 0, .int .i64 0, .slice none 0 0, .slice none 0 0, .slice none 0 0, .int .i64 0] 31)).cell? ⟨w.heap.size, 10, none⟩ = some (.slice ss sn sc_) := by have h := hT 10 _ rfl; rwa [Nat.zero_add] at h
  have k11 : ((w.alloc (.cells #[.float .f64 0, .float .f64 0, .float .f64 0, .int .i64 0, .float .f64 0, .float .f64 0, .float .f64 0, .float .f64 4607182418800017408, .float .f64 4607182418800017408, .int .i64 cs, .slice ss sn sc_, .slice none 0 0, .slice none 0 0, .int .i64 0] 31)).alloc (.cells #[.float .f64 0, .float .f64 0, .float .f64 0, .int .i64 0, .float .f64 0, .float .f64 0, .float .f64 0, .float .f64 0, .float .f64 0, .int .i64 0, .slice none 0 0, .slice none 0 0, .slice none 0 0, .int .i64 0] 31)).cell? ⟨w.heap.size, 11, none⟩ = some (.slice none 0 0) := by have h := hT 11 _ rfl; rwa [Nat.zero_add] at h
  have k12 : ((w.alloc (.cells #[.float .f64 0, .float .f64 0, .float .f64 0, .int .i64 0, .float .f64 0, .float .f64 0, .float .f64 0, .float .f64 4607182418800017408, .float .f64 4607182418800017408, .int .i64 cs, .slice ss sn sc_, .slice none 0 0, .slice none 0 0, .int .i64 0] 31)).alloc (.cells #[.float .f64 0, .float .f64 0, .float .f64 0, .int .i64 0, .float .f64 0, .float .f64 0, .float .f64 0, .float .f64 0, .float .f64 0, .int .i64 0, .slice none 0 0, .slice none 0 0, .slice none 0 0, .int .i64 0] 31)).cell? ⟨w.heap.size, 12, none⟩ = some (.slice none 0 0) := by have h := hT 12 _ rfl; rwa [Nat.zero_add] at h
  go_enter Try.func46, Try.ntmps46
  repeat (first | go_values | go_skip | go_guarded | go_step | go_upon | go_back | dsimp only)
  refine wp_region_monoT 10 (fun i W v => match i with | 0 => v = .pointer (some ⟨w.heap.size, 10, none⟩) | 1 => v = .slice ss sn sc_ | 2 => Owns ((w.alloc (.cells #[.float .f64 0, .float .f64 0, .float .f64 0, .int .i64 0, .float .f64 0, .float .f64 0, .float .f64 0, .float .f64 4607182418800017408, .float .f64 4607182418800017408, .int .i64 cs, .slice ss sn sc_, .slice none 0 0, .slice none 0 0, .int .i64 0] 31)).alloc (.cells #[.float .f64 0, .float .f64 0, .float .f64 0, .int .i64 0, .float .f64 0, .float .f64 0, .float .f64 0, .float .f64 0, .float .f64 0, .int .i64 0, .slice none 0 0, .slice none 0 0, .slice none 0 0, .int .i64 0] 31)) W v sn S | 3 => v = .pointer (some ⟨w.heap.size, 11, none⟩) | 4 => v = .slice none 0 0 | 5 => v = .slice none 0 0 | 6 => v = .pointer (some ⟨w.heap.size, 12, none⟩) | 7 => v = .slice none 0 0 | 8 => v = .slice none 0 0 | 9 => v = .pointer (some ⟨w.heap.size, 10, none⟩) | _ => False) ?A_wt (by kernel_rfl) (by kernel_rfl) ?hA_wt ?hmo_wt ?hq_wt [10, 11, 12, 13, 14] rfl ?ht_wt
  case hA_wt =>
    intro s
    simp only [putL, dstO, Act.put, List.getElem?_toArray, List.getElem?_cons_zero, List.getElem?_cons_succ, Option.bind_some, List.setIfInBounds_toArray, List.set_cons_zero, List.set_cons_succ, if_true]
    all_goals exact rfl
  case hmo_wt =>
    intro i W W' v hi hb h
    rcases (show i = 0 ∨ i = 1 ∨ i = 2 ∨ i = 3 ∨ i = 4 ∨ i = 5 ∨ i = 6 ∨ i = 7 ∨ i = 8 ∨ i = 9 by omega) with rfl | rfl | rfl | rfl | rfl | rfl | rfl | rfl | rfl | rfl
    all_goals first | exact h | exact h.bel hb
  case hq_wt =>
    intro i o hi ho s W hs hb K hK
    have u0 := keep hb k10; have u1 := keep hb k11; have u2 := keep hb k12
    rcases (show i = 0 ∨ i = 1 ∨ i = 2 ∨ i = 3 ∨ i = 4 ∨ i = 5 ∨ i = 6 ∨ i = 7 ∨ i = 8 ∨ i = 9 by omega) with rfl | rfl | rfl | rfl | rfl | rfl | rfl | rfl | rfl | rfl
    · cases ho
      simp only [Act.put, List.setIfInBounds_toArray, List.set_cons_zero, List.set_cons_succ] at hK
      clear hs
      go_simp
      all_goals (try go_wp2_with (first | (go_at_call 73; (with_reducible refine (cloneL_w sb so sn sc_ ss S _ hss hsc hsm (hs.bel (bl_trans B0 hb)) hn1024).mono ?_); rintro e w' ⟨v9, hv9, rfl, hb1⟩; replace hv9 := hv9.base hb.size) | (go_at_call 74; (with_reducible refine (cloneJ0_w _).mono ?_); rintro e w' ⟨rfl, rfl⟩) | (go_at_call 75; (with_reducible refine (cloneT0_w _).mono ?_); rintro e w' ⟨rfl, rfl⟩)))
      all_goals first | exact hK.out _ _ hv9 hb1 | exact hK.out _ _ rfl (bl_refl _) | exact hK.out _ _ rfl (by assumption) | exact hK.out _ _ (by assumption) (by assumption)
    · cases ho
      have e0 : s 0 = _ := hs 0 (by decide) (by kernel_rfl)
      simp only [e0] at hK ⊢
      simp only [Act.put, List.setIfInBounds_toArray, List.set_cons_zero, List.set_cons_succ] at hK
      clear hs
      go_simp
      all_goals (try go_wp2_with (first | (go_at_call 73; (with_reducible refine (cloneL_w sb so sn sc_ ss S _ hss hsc hsm (hs.bel (bl_trans B0 hb)) hn1024).mono ?_); rintro e w' ⟨v9, hv9, rfl, hb1⟩; replace hv9 := hv9.base hb.size) | (go_at_call 74; (with_reducible refine (cloneJ0_w _).mono ?_); rintro e w' ⟨rfl, rfl⟩) | (go_at_call 75; (with_reducible refine (cloneT0_w _).mono ?_); rintro e w' ⟨rfl, rfl⟩)))
      all_goals first | exact hK.out _ _ hv9 hb1 | exact hK.out _ _ rfl (bl_refl _) | exact hK.out _ _ rfl (by assumption) | exact hK.out _ _ (by assumption) (by assumption)
    · cases ho
      have e1 : s 1 = _ := hs 1 (by decide) (by kernel_rfl)
      simp only [e1] at hK ⊢
      simp only [Act.put, List.setIfInBounds_toArray, List.set_cons_zero, List.set_cons_succ] at hK
      clear hs
      go_simp
      all_goals (try go_wp2_with (first | (go_at_call 73; (with_reducible refine (cloneL_w sb so sn sc_ ss S _ hss hsc hsm (hs.bel (bl_trans B0 hb)) hn1024).mono ?_); rintro e w' ⟨v9, hv9, rfl, hb1⟩; replace hv9 := hv9.base hb.size) | (go_at_call 74; (with_reducible refine (cloneJ0_w _).mono ?_); rintro e w' ⟨rfl, rfl⟩) | (go_at_call 75; (with_reducible refine (cloneT0_w _).mono ?_); rintro e w' ⟨rfl, rfl⟩)))
      all_goals first | exact hK.out _ _ hv9 hb1 | exact hK.out _ _ rfl (bl_refl _) | exact hK.out _ _ rfl (by assumption) | exact hK.out _ _ (by assumption) (by assumption)
    · cases ho
      simp only [Act.put, List.setIfInBounds_toArray, List.set_cons_zero, List.set_cons_succ] at hK
      clear hs
      go_simp
      all_goals (try go_wp2_with (first | (go_at_call 73; (with_reducible refine (cloneL_w sb so sn sc_ ss S _ hss hsc hsm (hs.bel (bl_trans B0 hb)) hn1024).mono ?_); rintro e w' ⟨v9, hv9, rfl, hb1⟩; replace hv9 := hv9.base hb.size) | (go_at_call 74; (with_reducible refine (cloneJ0_w _).mono ?_); rintro e w' ⟨rfl, rfl⟩) | (go_at_call 75; (with_reducible refine (cloneT0_w _).mono ?_); rintro e w' ⟨rfl, rfl⟩)))
      all_goals first | exact hK.out _ _ hv9 hb1 | exact hK.out _ _ rfl (bl_refl _) | exact hK.out _ _ rfl (by assumption) | exact hK.out _ _ (by assumption) (by assumption)
    · cases ho
      have e3 : s 3 = _ := hs 3 (by decide) (by kernel_rfl)
      simp only [e3] at hK ⊢
      simp only [Act.put, List.setIfInBounds_toArray, List.set_cons_zero, List.set_cons_succ] at hK
      clear hs
      go_simp
      all_goals (try go_wp2_with (first | (go_at_call 73; (with_reducible refine (cloneL_w sb so sn sc_ ss S _ hss hsc hsm (hs.bel (bl_trans B0 hb)) hn1024).mono ?_); rintro e w' ⟨v9, hv9, rfl, hb1⟩; replace hv9 := hv9.base hb.size) | (go_at_call 74; (with_reducible refine (cloneJ0_w _).mono ?_); rintro e w' ⟨rfl, rfl⟩) | (go_at_call 75; (with_reducible refine (cloneT0_w _).mono ?_); rintro e w' ⟨rfl, rfl⟩)))
      all_goals first | exact hK.out _ _ hv9 hb1 | exact hK.out _ _ rfl (bl_refl _) | exact hK.out _ _ rfl (by assumption) | exact hK.out _ _ (by assumption) (by assumption)
    · cases ho
      have e4 : s 4 = _ := hs 4 (by decide) (by kernel_rfl)
      simp only [e4] at hK ⊢
      simp only [Act.put, List.setIfInBounds_toArray, List.set_cons_zero, List.set_cons_succ] at hK
      clear hs
      go_simp
      all_goals (try go_wp2_with (first | (go_at_call 73; (with_reducible refine (cloneL_w sb so sn sc_ ss S _ hss hsc hsm (hs.bel (bl_trans B0 hb)) hn1024).mono ?_); rintro e w' ⟨v9, hv9, rfl, hb1⟩; replace hv9 := hv9.base hb.size) | (go_at_call 74; (with_reducible refine (cloneJ0_w _).mono ?_); rintro e w' ⟨rfl, rfl⟩) | (go_at_call 75; (with_reducible refine (cloneT0_w _).mono ?_); rintro e w' ⟨rfl, rfl⟩)))
      all_goals first | exact hK.out _ _ hv9 hb1 | exact hK.out _ _ rfl (bl_refl _) | exact hK.out _ _ rfl (by assumption) | exact hK.out _ _ (by assumption) (by assumption)
    · cases ho
      simp only [Act.put, List.setIfInBounds_toArray, List.set_cons_zero, List.set_cons_succ] at hK
      clear hs
      go_simp
      all_goals (try go_wp2_with (first | (go_at_call 73; (with_reducible refine (cloneL_w sb so sn sc_ ss S _ hss hsc hsm (hs.bel (bl_trans B0 hb)) hn1024).mono ?_); rintro e w' ⟨v9, hv9, rfl, hb1⟩; replace hv9 := hv9.base hb.size) | (go_at_call 74; (with_reducible refine (cloneJ0_w _).mono ?_); rintro e w' ⟨rfl, rfl⟩) | (go_at_call 75; (with_reducible refine (cloneT0_w _).mono ?_); rintro e w' ⟨rfl, rfl⟩)))
      all_goals first | exact hK.out _ _ hv9 hb1 | exact hK.out _ _ rfl (bl_refl _) | exact hK.out _ _ rfl (by assumption) | exact hK.out _ _ (by assumption) (by assumption)
    · cases ho
      have e6 : s 6 = _ := hs 6 (by decide) (by kernel_rfl)
      simp only [e6] at hK ⊢
      simp only [Act.put, List.setIfInBounds_toArray, List.set_cons_zero, List.set_cons_succ] at hK
      clear hs
      go_simp
      all_goals (try go_wp2_with (first | (go_at_call 73; (with_reducible refine (cloneL_w sb so sn sc_ ss S _ hss hsc hsm (hs.bel (bl_trans B0 hb)) hn1024).mono ?_); rintro e w' ⟨v9, hv9, rfl, hb1⟩; replace hv9 := hv9.base hb.size) | (go_at_call 74; (with_reducible refine (cloneJ0_w _).mono ?_); rintro e w' ⟨rfl, rfl⟩) | (go_at_call 75; (with_reducible refine (cloneT0_w _).mono ?_); rintro e w' ⟨rfl, rfl⟩)))
      all_goals first | exact hK.out _ _ hv9 hb1 | exact hK.out _ _ rfl (bl_refl _) | exact hK.out _ _ rfl (by assumption) | exact hK.out _ _ (by assumption) (by assumption)
    · cases ho
      have e7 : s 7 = _ := hs 7 (by decide) (by kernel_rfl)
      simp only [e7] at hK ⊢
      simp only [Act.put, List.setIfInBounds_toArray, List.set_cons_zero, List.set_cons_succ] at hK
      clear hs
      go_simp
      all_goals (try go_wp2_with (first | (go_at_call 73; (with_reducible refine (cloneL_w sb so sn sc_ ss S _ hss hsc hsm (hs.bel (bl_trans B0 hb)) hn1024).mono ?_); rintro e w' ⟨v9, hv9, rfl, hb1⟩; replace hv9 := hv9.base hb.size) | (go_at_call 74; (with_reducible refine (cloneJ0_w _).mono ?_); rintro e w' ⟨rfl, rfl⟩) | (go_at_call 75; (with_reducible refine (cloneT0_w _).mono ?_); rintro e w' ⟨rfl, rfl⟩)))
      all_goals first | exact hK.out _ _ hv9 hb1 | exact hK.out _ _ rfl (bl_refl _) | exact hK.out _ _ rfl (by assumption) | exact hK.out _ _ (by assumption) (by assumption)
    · cases ho
      simp only [Act.put, List.setIfInBounds_toArray, List.set_cons_zero, List.set_cons_succ] at hK
      clear hs
      go_simp
      all_goals (try go_wp2_with (first | (go_at_call 73; (with_reducible refine (cloneL_w sb so sn sc_ ss S _ hss hsc hsm (hs.bel (bl_trans B0 hb)) hn1024).mono ?_); rintro e w' ⟨v9, hv9, rfl, hb1⟩; replace hv9 := hv9.base hb.size) | (go_at_call 74; (with_reducible refine (cloneJ0_w _).mono ?_); rintro e w' ⟨rfl, rfl⟩) | (go_at_call 75; (with_reducible refine (cloneT0_w _).mono ?_); rintro e w' ⟨rfl, rfl⟩)))
      all_goals first | exact hK.out _ _ hv9 hb1 | exact hK.out _ _ rfl (bl_refl _) | exact hK.out _ _ rfl (by assumption) | exact hK.out _ _ (by assumption) (by assumption)
  case ht_wt =>
    intro s W hs hb
    have e0 : s 0 = _ := hs 0 (by decide)
    have e1 : s 1 = _ := hs 1 (by decide)
    obtain h2 := hs 2 (by decide)
    have e3 : s 3 = _ := hs 3 (by decide)
    have e4 : s 4 = _ := hs 4 (by decide)
    have e5 : s 5 = _ := hs 5 (by decide)
    have e6 : s 6 = _ := hs 6 (by decide)
    have e7 : s 7 = _ := hs 7 (by decide)
    have e8 : s 8 = _ := hs 8 (by decide)
    have e9 : s 9 = _ := hs 9 (by decide)
    simp only [e0, e1, e3, e4, e5, e6, e7, e8, e9]
    clear e0 e1 e3 e4 e5 e6 e7 e8 e9
    obtain ⟨g, cap, sl, e2, hsl, hgc, hcm, hgw, hSg, hgt⟩ := h2
    obtain rfl : sl = some ⟨g, 0, none⟩ := by rcases hsl with h | h; omega; exact h
    simp only [e2]
    have k10 := keep hb k10
    have k11 := keep hb k11
    have k12 := keep hb k12
    have f10 := (bel_there hTt hb 10 (by decide)).2
    have f11 := (bel_there hTt hb 11 (by decide)).2
    have f12 := (bel_there hTt hb 12 (by decide)).2
    rw [Nat.zero_add] at f10 f11 f12
    have hTW := rng_bel hT hb
    have hUW := bel_there hU hb
    have hzb := hb.size
    clear hs
    refine tail_step rfl (fun K hK => ?_)
    go_simp
    refine hK.out _ _ ?_
    clear hK K
    refine tail_step rfl (fun K hK => ?_)
    go_simp
    refine hK.out _ _ ?_
    clear hK K
    refine tail_step rfl (fun K hK => ?_)
    go_simp
    refine hK.out _ _ ?_
    clear hK K
    refine tail_step rfl (fun K hK => ?_)
    go_simp
    refine hK.out _ _ ?_
    clear hK K
    refine tail_step rfl (fun K hK => ?_)
    go_simp
    refine hK.out _ _ ?_
    clear hK K
    refine tail_end ?_
    have hgH : w.heap.size + 1 < g := by omega
    have hT4 : (((W.setCell ⟨w.heap.size, 10, none⟩ (.slice (some ⟨g, 0, none⟩) sn cap)).setCell ⟨w.heap.size, 11, none⟩ (.slice none 0 0)).setCell ⟨w.heap.size, 12, none⟩ (.slice none 0 0)).rangeAt (w.heap.size) 0 [.float .f64 0, .float .f64 0, .float .f64 0, .int .i64 0, .float .f64 0, .float .f64 0, .float .f64 0, .float .f64 4607182418800017408, .float .f64 4607182418800017408, .int .i64 cs, (.slice (some ⟨g, 0, none⟩) sn cap), .slice none 0 0, .slice none 0 0, .int .i64 0] := rng_upd (k := 12) (v := .slice none 0 0) (rng_upd (k := 11) (v := .slice none 0 0) (rng_upd (k := 10) (v := (.slice (some ⟨g, 0, none⟩) sn cap)) hTW (by simp)) (by simp)) (by simp)
    have hU4 : (((W.setCell ⟨w.heap.size, 10, none⟩ (.slice (some ⟨g, 0, none⟩) sn cap)).setCell ⟨w.heap.size, 11, none⟩ (.slice none 0 0)).setCell ⟨w.heap.size, 12, none⟩ (.slice none 0 0)).there (w.heap.size + 1) 0 14 := there_set (there_set (there_set hUW))
    have hS4 : Sls (((W.setCell ⟨w.heap.size, 10, none⟩ (.slice (some ⟨g, 0, none⟩) sn cap)).setCell ⟨w.heap.size, 11, none⟩ (.slice none 0 0)).setCell ⟨w.heap.size, 12, none⟩ (.slice none 0 0)) g 0 sn S := fun i hi => rng_set_far (rng_set_far (rng_set_far (hSg i hi) (by simp; omega)) (by simp; omega)) (by simp; omega)
    have hg4 : (((W.setCell ⟨w.heap.size, 10, none⟩ (.slice (some ⟨g, 0, none⟩) sn cap)).setCell ⟨w.heap.size, 11, none⟩ (.slice none 0 0)).setCell ⟨w.heap.size, 12, none⟩ (.slice none 0 0)).there g 0 (sn * 18) := there_set (there_set (there_set hgt))
    have hB4 : Bel w (((W.setCell ⟨w.heap.size, 10, none⟩ (.slice (some ⟨g, 0, none⟩) sn cap)).setCell ⟨w.heap.size, 11, none⟩ (.slice none 0 0)).setCell ⟨w.heap.size, 12, none⟩ (.slice none 0 0)) := bl_set (bl_set (bl_set (bl_trans B0 hb) (Nat.le_refl _)) (Nat.le_refl _)) (Nat.le_refl _)
    have hs4 : w.heap.size + 1 < (((W.setCell ⟨w.heap.size, 10, none⟩ (.slice (some ⟨g, 0, none⟩) sn cap)).setCell ⟨w.heap.size, 11, none⟩ (.slice none 0 0)).setCell ⟨w.heap.size, 12, none⟩ (.slice none 0 0)).heap.size := by rw [size_set, size_set, size_set]; omega
    repeat (first | go_values | go_skip | go_guarded | go_step | go_upon | go_back | dsimp only)
    go_loopw [22] (fun i wr => ∃ k : Nat, k ≤ sn ∧ i = .int .i64 k ∧ Bel w wr ∧ wr.rangeAt (w.heap.size) 0 [.float .f64 0, .float .f64 0, .float .f64 0, .int .i64 0, .float .f64 0, .float .f64 0, .float .f64 0, .float .f64 4607182418800017408, .float .f64 4607182418800017408, .int .i64 cs, (.slice (some ⟨g, 0, none⟩) sn cap), .slice none 0 0, .slice none 0 0, .int .i64 0] ∧ wr.there (w.heap.size + 1) 0 14 ∧ Sls wr g 0 sn S ∧ wr.there g 0 (sn * 18) ∧ w.heap.size + 1 < wr.heap.size) (fun i _ => sn - (intOf i).toNat)
    case atStart => exact ⟨0, by omega, rfl, hB4, hT4, hU4, hS4, hg4, hs4⟩
    case round =>
      obtain ⟨k, hk, rfl, hB, hTr, hUr, hSr, hgtr, hsr⟩ := hrel
      by_cases hlt : k < sn
      · have hkI : (k : Int) < (sn : Int) := by omega
        have hkC : (k : Int) < (cap : Int) := by omega
        have hld : wr.rangeAt g (k * 18) [.int .u32 (S k).u, .bool (S k).l, .int .u8 (S k).k, .float .f64 0, .float .f64 0, .complex .f64 0 0, .float .f64 0, .float .f64 0, .float .f64 0, .float .f64 0, .float .f64 0, .float .f64 0, .float .f64 0, .float .f64 0, .slice none 0 0, .bool (S k).a, .int .i64 (S k).c, .bool false] := by have h := hSr k hlt; rwa [Nat.zero_add] at h
        have hX : (wr.alloc (.cells #[.int .u32 0, .bool false, .int .u8 0, .float .f64 0, .float .f64 0, .complex .f64 0 0, .float .f64 0, .float .f64 0, .float .f64 0, .float .f64 0, .float .f64 0, .float .f64 0, .float .f64 0, .float .f64 0, .slice none 0 0, .bool false, .int .i64 0, .bool false] 42)).there wr.heap.size 0 18 := there_new wr [.int .u32 0, .bool false, .int .u8 0, .float .f64 0, .float .f64 0, .complex .f64 0 0, .float .f64 0, .float .f64 0, .float .f64 0, .float .f64 0, .float .f64 0, .float .f64 0, .float .f64 0, .float .f64 0, .slice none 0 0, .bool false, .int .i64 0, .bool false] 42
        have hbx0 : ((wr.alloc (.cells #[.int .u32 0, .bool false, .int .u8 0, .float .f64 0, .float .f64 0, .complex .f64 0 0, .float .f64 0, .float .f64 0, .float .f64 0, .float .f64 0, .float .f64 0, .float .f64 0, .float .f64 0, .float .f64 0, .slice none 0 0, .bool false, .int .i64 0, .bool false] 42)).setCells wr.heap.size 0 [.int .u32 (S k).u, .bool (S k).l, .int .u8 (S k).k, .float .f64 0, .float .f64 0, .complex .f64 0 0, .float .f64 0, .float .f64 0, .float .f64 0, .float .f64 0, .float .f64 0, .float .f64 0, .float .f64 0, .float .f64 0, .slice none 0 0, .bool (S k).a, .int .i64 (S k).c, .bool false]).rangeAt wr.heap.size 0 [.int .u32 (S k).u, .bool (S k).l, .int .u8 (S k).k, .float .f64 0, .float .f64 0, .complex .f64 0 0, .float .f64 0, .float .f64 0, .float .f64 0, .float .f64 0, .float .f64 0, .float .f64 0, .float .f64 0, .float .f64 0, .slice none 0 0, .bool (S k).a, .int .i64 (S k).c, .bool false] := World.rangeAt_setCells_same _ _ _ _ hX
        have hB2 : Bel wr ((wr.alloc (.cells #[.int .u32 0, .bool false, .int .u8 0, .float .f64 0, .float .f64 0, .complex .f64 0 0, .float .f64 0, .float .f64 0, .float .f64 0, .float .f64 0, .float .f64 0, .float .f64 0, .float .f64 0, .float .f64 0, .slice none 0 0, .bool false, .int .i64 0, .bool false] 42)).setCells wr.heap.size 0 [.int .u32 (S k).u, .bool (S k).l, .int .u8 (S k).k, .float .f64 0, .float .f64 0, .complex .f64 0 0, .float .f64 0, .float .f64 0, .float .f64 0, .float .f64 0, .float .f64 0, .float .f64 0, .float .f64 0, .float .f64 0, .slice none 0 0, .bool (S k).a, .int .i64 (S k).c, .bool false]) := bel_setsJ _ _ (bl_alloc (bl_refl _) _ _) (Nat.le_refl _)
        have hT8 := rng_bel hTr hB2
        have hU8 := bel_there hUr hB2
        have hSr8 := hSr.bel hB2
        have hgt8 := bel_there hgtr hB2
        have hB8 := bl_trans hB hB2
        have hs8 := Nat.lt_of_lt_of_le hsr hB2.size
        have hgl8 : g < ((wr.alloc (.cells #[.int .u32 0, .bool false, .int .u8 0, .float .f64 0, .float .f64 0, .complex .f64 0 0, .float .f64 0, .float .f64 0, .float .f64 0, .float .f64 0, .float .f64 0, .float .f64 0, .float .f64 0, .float .f64 0, .slice none 0 0, .bool false, .int .i64 0, .bool false] 42)).setCells wr.heap.size 0 [.int .u32 (S k).u, .bool (S k).l, .int .u8 (S k).k, .float .f64 0, .float .f64 0, .complex .f64 0 0, .float .f64 0, .float .f64 0, .float .f64 0, .float .f64 0, .float .f64 0, .float .f64 0, .float .f64 0, .float .f64 0, .slice none 0 0, .bool (S k).a, .int .i64 (S k).c, .bool false]).heap.size := hSr8.lt hlt
        have kS8 := hT8 10 _ rfl
        rw [Nat.zero_add] at kS8
        have hbd : ((wr.alloc (.cells #[.int .u32 0, .bool false, .int .u8 0, .float .f64 0, .float .f64 0, .complex .f64 0 0, .float .f64 0, .float .f64 0, .float .f64 0, .float .f64 0, .float .f64 0, .float .f64 0, .float .f64 0, .float .f64 0, .slice none 0 0, .bool false, .int .i64 0, .bool false] 42)).setCells wr.heap.size 0 [.int .u32 (S k).u, .bool (S k).l, .int .u8 (S k).k, .float .f64 0, .float .f64 0, .complex .f64 0 0, .float .f64 0, .float .f64 0, .float .f64 0, .float .f64 0, .float .f64 0, .float .f64 0, .float .f64 0, .float .f64 0, .slice none 0 0, .bool (S k).a, .int .i64 (S k).c, .bool false]).rangeAt wr.heap.size 2 [.int .u8 (S k).k, .float .f64 0, .float .f64 0, .complex .f64 0 0, .float .f64 0, .float .f64 0, .float .f64 0, .float .f64 0, .float .f64 0, .float .f64 0, .float .f64 0, .float .f64 0, .slice none 0 0, .bool (S k).a, .int .i64 (S k).c, .bool false] := fun j v hj => by
          have h := hbx0 (j + 2) v hj
          rw [show 0 + (j + 2) = 2 + j by omega] at h
          exact h
        repeat (first | ((with_reducible show Oper.wp _ { dst := _, op := Op.load 42 _, type := _, pos := _, after := _, guard := _ } _ _ _ _); refine wp_load_mid (P := Try.prog) 42 _ rfl _ _ rfl [.int .u32 (S k).u, .bool (S k).l, .int .u8 (S k).k, .float .f64 0, .float .f64 0, .complex .f64 0 0, .float .f64 0, .float .f64 0, .float .f64 0, .float .f64 0, .float .f64 0, .float .f64 0, .float .f64 0, .float .f64 0, .slice none 0 0, .bool (S k).a, .int .i64 (S k).c, .bool false] _ hld Try.underlying42 rfl (by kernel_rfl) ?_; simp only [go_sem]) | ((with_reducible show Oper.wp _ { dst := _, op := Op.store 42 _ _, type := _, pos := _, after := _, guard := _ } _ _ _ _); refine wp_store_mid (P := Try.prog) 42 _ _ rfl (wr.heap.size) (0) #[.int .u32 (S k).u, .bool (S k).l, .int .u8 (S k).k, .float .f64 0, .float .f64 0, .complex .f64 0 0, .float .f64 0, .float .f64 0, .float .f64 0, .float .f64 0, .float .f64 0, .float .f64 0, .float .f64 0, .float .f64 0, .slice none 0 0, .bool (S k).a, .int .i64 (S k).c, .bool false] rfl rfl hX (by kernel_rfl) (by kernel_rfl) ?_; (try simp only [go_sem])) | go_values | go_skip | go_guarded | go_step | go_upon | go_back | dsimp only)
        generalize hbx9 : wr.heap.size = bx at *
        refine wp_region_knot 9 rfl (fun i v => match i with | 0 => v = .pointer (some ⟨w.heap.size, 10, none⟩) | 1 => v = (.slice (some ⟨g, 0, none⟩) sn cap) | 2 => v = .int .i64 (k : Int) | 3 => v = .pointer (some ⟨bx, 2, none⟩) | 4 => v = .agg #[.int .u8 (S k).k, .float .f64 0, .float .f64 0, .complex .f64 0 0, .float .f64 0, .float .f64 0, .float .f64 0, .float .f64 0, .float .f64 0, .float .f64 0, .float .f64 0, .float .f64 0, .slice none 0 0, .bool (S k).a, .int .i64 (S k).c, .bool false] | 5 => v = .agg #[.int .u8 (S k).k, .float .f64 0, .float .f64 0, .complex .f64 0 0, .float .f64 0, .float .f64 0, .float .f64 0, .float .f64 0, .float .f64 0, .float .f64 0, .float .f64 0, .float .f64 0, .slice none 0 0, .bool (S k).a, .int .i64 (S k).c, .bool false] | 6 => v = .pointer (some ⟨g, k * 18, none⟩) | 7 => v = .pointer (some ⟨g, k * 18 + 2, none⟩) | _ => False) (fun i => match i with | 1 => true | 4 => true | 5 => true | _ => false) (fun i => match i with | 8 => some (g, k * 18 + 2, 5) | _ => none) (fun i => match i with | 8 => 16 | _ => 0) [g] 6 ?A_wk (by kernel_rfl) (by kernel_rfl) ?hA_wk ?hpre_wk ?hdep_wk ?hne_wk ?hq_wk ?hp_wk ?hst_wk ?ht_wk
        case hA_wk =>
          intro s
          simp only [putL, dstO, Act.put, List.getElem?_toArray, List.getElem?_cons_zero, List.getElem?_cons_succ, Option.bind_some, List.setIfInBounds_toArray, List.set_cons_zero, List.set_cons_succ, if_true]
          all_goals exact rfl
        case hpre_wk =>
          intro i j b o d hi hr hso
          have hj : j = 8 := by
            split at hso
            all_goals first | omega | (cases hso; done)
          rcases (show i = 0 ∨ i = 1 ∨ i = 2 ∨ i = 3 ∨ i = 4 ∨ i = 5 ∨ i = 6 ∨ i = 7 ∨ i = 8 by omega) with rfl | rfl | rfl | rfl | rfl | rfl | rfl | rfl | rfl
          all_goals first
            | (cases hr; done)
            | (rcases hj with rfl <;> (show rch _ _ _ _ = true) <;> kernel_rfl)
        case hdep_wk =>
          intro i b o d hso
          split at hso
          all_goals first | (cases hso; done) | (cases hso; exact ⟨by decide, rfl, by simp, by decide, rfl, by kernel_rfl⟩)
        case hne_wk =>
          intro i j b o d o' d' hij h1 h2
          split at h1
          all_goals (try (cases h1; done))
          all_goals split at h2
          all_goals (try (cases h2; done))
          all_goals (cases h1; cases h2; first | (exact absurd rfl hij) | (exact absurd rfl hne9) | (exact absurd rfl hne9.symm) | (simp only []; omega) | omega)
        case hq_wk =>
          intro i o hi ho hso hrd s hs W hb K hK
          have kS9 := keep hb kS8
          rcases (show i = 0 ∨ i = 1 ∨ i = 2 ∨ i = 3 ∨ i = 4 ∨ i = 5 ∨ i = 6 ∨ i = 7 ∨ i = 8 by omega) with rfl | rfl | rfl | rfl | rfl | rfl | rfl | rfl | rfl
          · cases hrd
          · cases ho
            have e0 : s 0 = _ := hs 0 (by decide) rfl (by kernel_rfl)
            simp only [e0] at hK ⊢
            simp only [Act.put, List.setIfInBounds_toArray, List.set_cons_zero, List.set_cons_succ] at hK
            clear hs
            go_simp
            all_goals first | with_reducible exact hK.out _ _ rfl (bl_refl _) | exact hK.out _ _ rfl (bl_refl _)
          · cases hrd
          · cases hrd
          · cases ho
            have e3 : s 3 = _ := hs 3 (by decide) rfl (by kernel_rfl)
            simp only [e3] at hK ⊢
            simp only [Act.put, List.setIfInBounds_toArray, List.set_cons_zero, List.set_cons_succ] at hK
            clear hs
            refine wp_load_mid (P := Try.prog) 39 _ rfl _ _ rfl [.int .u8 (S k).k, .float .f64 0, .float .f64 0, .complex .f64 0 0, .float .f64 0, .float .f64 0, .float .f64 0, .float .f64 0, .float .f64 0, .float .f64 0, .float .f64 0, .float .f64 0, .slice none 0 0, .bool (S k).a, .int .i64 (S k).c, .bool false] _ (rng_bel hbd hb) Try.underlying39 rfl (by kernel_rfl) ?_; exact hK.out _ _ rfl (bl_refl _)
          · cases ho
            have e4 : s 4 = _ := hs 4 (by decide) rfl (by kernel_rfl)
            simp only [e4] at hK ⊢
            simp only [Act.put, List.setIfInBounds_toArray, List.set_cons_zero, List.set_cons_succ] at hK
            clear hs
            go_simp
            all_goals (try go_wp2_with (first | (go_at_call 76; (with_reducible refine (bodyTwin_w (S k) _).mono ?_); rintro e w' ⟨rfl, hb1⟩)))
            all_goals first | with_reducible exact hK.out _ _ rfl hb1 | exact hK.out _ _ rfl hb1 | with_reducible exact hK.out _ _ rfl (bl_refl _) | exact hK.out _ _ rfl (bl_refl _)
          · cases hrd
          · cases hrd
          · cases hso
        case hp_wk =>
          intro i o hi ho hso hrd s hs W K hK
          rcases (show i = 0 ∨ i = 1 ∨ i = 2 ∨ i = 3 ∨ i = 4 ∨ i = 5 ∨ i = 6 ∨ i = 7 ∨ i = 8 by omega) with rfl | rfl | rfl | rfl | rfl | rfl | rfl | rfl | rfl
          · cases ho
            simp only [Act.put, List.setIfInBounds_toArray, List.set_cons_zero, List.set_cons_succ] at hK
            clear hs
            go_simp
            all_goals first | with_reducible exact hK.out _ rfl | exact hK.out _ rfl
          · cases hrd
          · cases ho
            simp only [Act.put, List.setIfInBounds_toArray, List.set_cons_zero, List.set_cons_succ] at hK
            clear hs
            go_simp
            all_goals first | with_reducible exact hK.out _ rfl | exact hK.out _ rfl
          · cases ho
            simp only [Act.put, List.setIfInBounds_toArray, List.set_cons_zero, List.set_cons_succ] at hK
            clear hs
            go_simp
            all_goals first | with_reducible exact hK.out _ rfl | exact hK.out _ rfl
          · cases hrd
          · cases hrd
          · cases ho
            have e1 : s 1 = _ := hs 1 (by decide) rfl (by kernel_rfl)
            have e2 : s 2 = _ := hs 2 (by decide) rfl (by kernel_rfl)
            simp only [e1, e2] at hK ⊢
            simp only [Act.put, List.setIfInBounds_toArray, List.set_cons_zero, List.set_cons_succ] at hK
            clear hs
            go_simp
            all_goals first | with_reducible exact hK.out _ rfl | exact hK.out _ rfl
          · cases ho
            have e6 : s 6 = _ := hs 6 (by decide) rfl (by kernel_rfl)
            simp only [e6] at hK ⊢
            simp only [Act.put, List.setIfInBounds_toArray, List.set_cons_zero, List.set_cons_succ] at hK
            clear hs
            go_simp
            all_goals first | with_reducible exact hK.out _ rfl | exact hK.out _ rfl
          · cases hso
        case hst_wk =>
          intro i o b q d hi ho hso s hs W hb K hK
          rcases (show i = 0 ∨ i = 1 ∨ i = 2 ∨ i = 3 ∨ i = 4 ∨ i = 5 ∨ i = 6 ∨ i = 7 ∨ i = 8 by omega) with rfl | rfl | rfl | rfl | rfl | rfl | rfl | rfl | rfl
          · cases hso
          · cases hso
          · cases hso
          · cases hso
          · cases hso
          · cases hso
          · cases hso
          · cases hso
          · cases ho
            cases hso
            have e5 : s 5 = _ := hs 5 (by decide) rfl (by kernel_rfl)
            have e7 : s 7 = _ := hs 7 (by decide) rfl (by kernel_rfl)
            simp only [e5, e7] at hK ⊢
            have hth := there_sub (hb.thr _ _ _ hgt8) (show k * 18 + 2 + 16 ≤ sn * 18 by omega)
            refine wp_store_mid (P := Try.prog) 39 _ _ rfl (g) (k * 18 + 2) #[.int .u8 (S k).k, .float .f64 0, .float .f64 0, .complex .f64 0 0, .float .f64 0, .float .f64 0, .float .f64 0, .float .f64 0, .float .f64 0, .float .f64 0, .float .f64 0, .float .f64 0, .slice none 0 0, .bool (S k).a, .int .i64 (S k).c, .bool false] rfl rfl hth (by kernel_rfl) (by kernel_rfl) ?_
            exact hK.out [.int .u8 (S k).k, .float .f64 0, .float .f64 0, .complex .f64 0 0, .float .f64 0, .float .f64 0, .float .f64 0, .float .f64 0, .float .f64 0, .float .f64 0, .float .f64 0, .float .f64 0, .slice none 0 0, .bool (S k).a, .int .i64 (S k).c, .bool false] (.inl rfl) rfl hth
        case ht_wk =>
          intro s hs W2 hfx hout hin
          have e0 : s 0 = _ := hs 0 (by decide) rfl
          have e1 : s 1 = _ := hs 1 (by decide) rfl
          have e2 : s 2 = _ := hs 2 (by decide) rfl
          have e3 : s 3 = _ := hs 3 (by decide) rfl
          have e4 : s 4 = _ := hs 4 (by decide) rfl
          have e5 : s 5 = _ := hs 5 (by decide) rfl
          have e6 : s 6 = _ := hs 6 (by decide) rfl
          have e7 : s 7 = _ := hs 7 (by decide) rfl
          simp only [e0, e1, e2, e3, e4, e5, e6, e7]
          obtain ⟨cs1, g1, g2, g3⟩ := hin 8 _ _ _ rfl
          rw [e5] at g1
          have i1 := cellsV_agg (l := [.int .u8 (S k).k, .float .f64 0, .float .f64 0, .complex .f64 0 0, .float .f64 0, .float .f64 0, .float .f64 0, .float .f64 0, .float .f64 0, .float .f64 0, .float .f64 0, .float .f64 0, .slice none 0 0, .bool (S k).a, .int .i64 (S k).c, .bool false]) g1 (by rw [g2]; decide)
          subst i1
          clear hs hin g1 g2 e0 e1 e2 e3 e4 e5 e6 e7
          have hS9 := sls_same hSr8 hlt g3 (fun q n1 => hout g q hgl8 (by rintro ⟨j, o, d, h1, h2, h3, h4⟩; dsimp only at h1 h4; split at h1 <;> cases h1; (have h5 : q < k * 18 + 2 + 16 := h4); exact n1 ⟨h3, by omega⟩))
          repeat (first | go_values | go_skip | go_guarded | go_step | go_upon | go_back | dsimp only)
          exact ⟨⟨k + 1, by omega, by go_num, hfx.bel hB8 (by simp only [List.mem_singleton]; rintro _ rfl; omega), hfx.rng (by simp only [List.mem_singleton]; omega) hT8, hfx.thr _ _ _ hU8, hS9, hfx.thr _ _ _ hgt8, Nat.lt_of_lt_of_le hs8 hfx.size⟩, by simp [intOf]; omega⟩
      · have hnl : ¬ (k : Int) < (sn : Int) := by omega
        have kT := hTr 12 _ rfl
        rw [Nat.zero_add] at kT
        repeat (first | go_values | go_skip | go_guarded | go_step | go_upon | go_back | dsimp only)
        refine wp_loop_rounds 1 ?_
        rw [rounds_succ]
        repeat (first | ((with_reducible show Oper.wp _ { dst := _, op := Op.load 31 _, type := _, pos := _, after := _, guard := _ } _ _ _ _); refine wp_load_mid (P := Try.prog) 31 _ rfl _ _ rfl [.float .f64 0, .float .f64 0, .float .f64 0, .int .i64 0, .float .f64 0, .float .f64 0, .float .f64 0, .float .f64 4607182418800017408, .float .f64 4607182418800017408, .int .i64 cs, (.slice (some ⟨g, 0, none⟩) sn cap), .slice none 0 0, .slice none 0 0, .int .i64 0] _ hTr Try.underlying31 rfl (by kernel_rfl) ?_; simp only [go_sem]) | ((with_reducible show Oper.wp _ { dst := _, op := Op.store 31 _ _, type := _, pos := _, after := _, guard := _ } _ _ _ _); refine wp_store_mid (P := Try.prog) 31 _ _ rfl (w.heap.size + 1) (0) #[.float .f64 0, .float .f64 0, .float .f64 0, .int .i64 0, .float .f64 0, .float .f64 0, .float .f64 0, .float .f64 4607182418800017408, .float .f64 4607182418800017408, .int .i64 cs, (.slice (some ⟨g, 0, none⟩) sn cap), .slice none 0 0, .slice none 0 0, .int .i64 0] rfl rfl hUr (by kernel_rfl) (by kernel_rfl) ?_; (try simp only [go_sem])) | go_values | go_skip | go_guarded | go_step | go_upon | go_back | dsimp only)
        refine bodyPost_ret (results_c (c := 2) (ty := 31) rfl rfl (run_loadVar_mid _ (w.heap.size + 1) 0 31 [.float .f64 0, .float .f64 0, .float .f64 0, .int .i64 0, .float .f64 0, .float .f64 0, .float .f64 0, .float .f64 4607182418800017408, .float .f64 4607182418800017408, .int .i64 cs, (.slice (some ⟨g, 0, none⟩) sn cap), .slice none 0 0, .slice none 0 0, .int .i64 0] _ (World.rangeAt_setCells_same _ _ _ _ hUr) Try.underlying31 rfl (by kernel_rfl))) rfl ?_
        exact ⟨g, cap, hgc, hcm, by omega, fun i hi => World.rangeAt_setCells_apart (hSr i hi) _ _ _ (.inl (by omega)), World.there_setCells hgtr _ _ _, rfl, bel_setsJ _ _ hB (by omega)⟩

end Go.Proofs.Ytcdnhkjedmmhpaa
