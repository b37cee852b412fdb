/-
  What each function of package poly answers, and what the reference of its chapter answers: one contract a function, for every float: the answer stands in the relation of its formula to what was given; of the memory that was there nothing has turned.
-/
import Derived.Test.YtfaiaepkmlmoaaaGreatVec
import Derived.Test.YtfaiaepkmlmoaaaGreatRb
import Derived.Below
import Derived.WalkKit
import Derived.WalkLawsBesides
import Derived.WalkSpells
import Derived.ProofKit
import Derived.OpenShut
import Derived.Deep.RegionHeld3
namespace Go.Proofs.YtfaiaepkmlmoaaaGreat
open Go.ChangeShapes Go.WideShapes Go.ChangeAt Go.RowKit
set_option linter.unusedVariables false
set_option linter.unusedSimpArgs false


set_option maxHeartbeats 2000000 in
theorem rsum_d (b off n cap : Nat) (xs ys : Nat → Nat) (w : World) (sB : Sl w b off n xs ys) (g : Gd xs ys n) (h3 : 3 ≤ n) (h64 : n ≤ 64) (hcap : n ≤ cap) : Calls Tryz.prog 82 #[.slice (some ⟨b, off, none⟩) n cap] w fun e w' => e = .returned (.float .f64 (sA xs ys (n - 3))) ∧ Bel w w' := by
  have hp : 0 < n := by omega
  have n0 : (0 : Int) < (n : Int) := by omega
  have wn : IntKind.wrap .i64 ((n : Int) - 1) = (n : Int) - 1 := by rw [IntKind.wrap_i64]; omega
  obtain ⟨u0, u1⟩ := g 0 hp
  go_enter Tryz.func82, Tryz.ntmps82
  go_wp2
  go_loopw [4, 3] (fun i' s' wr => ∃ kx f : Nat, 1 ≤ kx ∧ kx + 1 ≤ n ∧ i' = .int .i64 kx ∧ (2 ≤ kx → sA xs ys (kx - 2) = f) ∧ s' = .float .f64 f ∧ Bel w wr) (fun i' _ _ => n - (intOf i').toNat)
  case atStart => exact ⟨1, 0, by omega, by omega, rfl, fun h => by omega, rfl, bl_refl _⟩
  case round =>
    obtain ⟨kx, f, hk1, hkn, rfl, hf, rfl, hB⟩ := hrel
    by_cases hlt : kx + 1 < n
    · have j1 : (kx : Int) < (n : Int) - 1 := by omega
      have j2 : (kx : Int) < (n : Int) := by omega
      have j3 : (0 : Int) ≤ (kx : Int) + 1 := by omega
      have j4 : (kx : Int) + 1 < (n : Int) := by omega
      have j5 : ((kx : Int) + 1).toNat = kx + 1 := by omega
      have wj : IntKind.wrap .i64 ((kx : Int) + 1) = (kx : Int) + 1 := by rw [IntKind.wrap_i64]; omega
      obtain ⟨v0, v1⟩ := g kx (by omega)
      obtain ⟨v2, v3⟩ := g (kx + 1) hlt
      have m1 : Bd 42 (Dv .sub (xs kx) (xs 0)) := bd_sub v0 u0 (by decide)
      have m2 : Bd 42 (Dv .sub (ys kx) (ys 0)) := bd_sub v1 u1 (by decide)
      have m3 : Bd 42 (Dv .sub (xs (kx + 1)) (xs 0)) := bd_sub v2 u0 (by decide)
      have m4 : Bd 42 (Dv .sub (ys (kx + 1)) (ys 0)) := bd_sub v3 u1 (by decide)
      by_cases h1 : kx = 1
      · have x1 : ((kx : Int) == 1) = true := by simp; omega
        have h1' := hide h1
        clear h1
        go_wp2
        refine wp_region_multiA 19 (fun i v => match i with | 0 => v = .slice (some ⟨b, off, none⟩) n cap | 1 => v = .pointer (some ⟨b, off, none⟩) | 2 => v = .agg #[.float .f64 (xs 0), .float .f64 (ys 0)] | 3 => v = .slice (some ⟨b, off, none⟩) n cap | 4 => v = .int .i64 (kx : Int) | 5 => v = .pointer (some ⟨b, off + kx * 2, none⟩) | 6 => v = .agg #[.float .f64 (xs kx), .float .f64 (ys kx)] | 7 => v = .agg #[.float .f64 (Dv .sub (xs kx) (xs 0)), .float .f64 (Dv .sub (ys kx) (ys 0))] | 8 => v = .slice (some ⟨b, off, none⟩) n cap | 9 => v = .pointer (some ⟨b, off, none⟩) | 10 => v = .agg #[.float .f64 (xs 0), .float .f64 (ys 0)] | 11 => v = .slice (some ⟨b, off, none⟩) n cap | 12 => v = .int .i64 (kx : Int) | 13 => v = .int .i64 ((kx : Int) + 1) | 14 => v = .pointer (some ⟨b, off + (kx + 1) * 2, none⟩) | 15 => v = .agg #[.float .f64 (xs (kx + 1)), .float .f64 (ys (kx + 1))] | 16 => v = .agg #[.float .f64 (Dv .sub (xs (kx + 1)) (xs 0)), .float .f64 (Dv .sub (ys (kx + 1)) (ys 0))] | 17 => v = .float .f64 (tA (xs 0) (ys 0) (xs kx) (ys kx) (xs (kx + 1)) (ys (kx + 1))) | 18 => v = .float .f64 (tA (xs 0) (ys 0) (xs kx) (ys kx) (xs (kx + 1)) (ys (kx + 1))) | _ => False) (fun i => match i with  | _ => none) ?A_wh (by kernel_rfl) (by kernel_rfl) ?hA_wh ?ha_wh ?hq_wh [] rfl ?ht_wh
        case hA_wh =>
          intro s
          simp only [putL, dstO, Act.put, List.getElem?_toArray, List.getElem?_cons_zero, List.getElem?_cons_succ, Option.bind_some, List.setIfInBounds_toArray, List.set_cons_zero, List.set_cons_succ, if_true]
          all_goals exact rfl
        case ha_wh =>
          intro i o ob hi ho hal
          rcases (show i = 0 ∨ i = 1 ∨ i = 2 ∨ i = 3 ∨ i = 4 ∨ i = 5 ∨ i = 6 ∨ i = 7 ∨ i = 8 ∨ i = 9 ∨ i = 10 ∨ i = 11 ∨ i = 12 ∨ i = 13 ∨ i = 14 ∨ i = 15 ∨ i = 16 ∨ i = 17 ∨ i = 18 by omega) with rfl | rfl | rfl | rfl | rfl | rfl | rfl | rfl | rfl | rfl | rfl | rfl | rfl | rfl | rfl | rfl | rfl | rfl | rfl
          · cases hal
          · cases hal
          · cases hal
          · cases hal
          · cases hal
          · cases hal
          · cases hal
          · cases hal
          · cases hal
          · cases hal
          · cases hal
          · cases hal
          · cases hal
          · cases hal
          · cases hal
          · cases hal
          · cases hal
          · cases hal
          · cases hal
        case hq_wh =>
          intro i o hi ho hal s hs W hb K hK
          obtain ⟨y0, y1⟩ := (sB.bel (bl_trans hB hb)) 0 hp; simp only [Nat.zero_mul, Nat.add_zero] at y0 y1; obtain ⟨y2, y3⟩ := (sB.bel (bl_trans hB hb)) kx (by omega); obtain ⟨y4, y5⟩ := (sB.bel (bl_trans hB hb)) (kx + 1) hlt
          rcases (show i = 0 ∨ i = 1 ∨ i = 2 ∨ i = 3 ∨ i = 4 ∨ i = 5 ∨ i = 6 ∨ i = 7 ∨ i = 8 ∨ i = 9 ∨ i = 10 ∨ i = 11 ∨ i = 12 ∨ i = 13 ∨ i = 14 ∨ i = 15 ∨ i = 16 ∨ i = 17 ∨ i = 18 by omega) with rfl | rfl | rfl | rfl | rfl | rfl | rfl | rfl | rfl | rfl | rfl | rfl | rfl | rfl | rfl | rfl | rfl | rfl | rfl
          · cases ho
            simp only [Act.put, List.setIfInBounds_toArray, List.set_cons_zero, List.set_cons_succ] at hK
            clear hs
            go_simp
            all_goals (try go_wp2_with (first | (go_at_call 83; refine (lead_d _ _ _ _ _ (by with_reducible assumption) (by with_reducible assumption) (by with_reducible assumption) (by with_reducible assumption)).mono ?_; rintro e w1 ⟨rfl, hb1⟩) | (go_at_call 65; refine (rCross_d _ (by with_reducible assumption) (by with_reducible assumption) (by with_reducible assumption) (by with_reducible assumption) (by decide)).mono ?_; rintro e w1 ⟨rfl, hb1⟩)))
            all_goals first | exact hK.out _ _ rfl (bl_refl _) | exact hK.out _ _ rfl (by assumption) | exact hK.out _ _ (by assumption) (by assumption)
          · cases ho
            have e0 : s 0 = _ := hs 0 (by decide) (by kernel_rfl)
            simp only [e0] at hK ⊢
            simp only [Act.put, List.setIfInBounds_toArray, List.set_cons_zero, List.set_cons_succ] at hK
            clear hs
            go_simp
            all_goals (try go_wp2_with (first | (go_at_call 83; refine (lead_d _ _ _ _ _ (by with_reducible assumption) (by with_reducible assumption) (by with_reducible assumption) (by with_reducible assumption)).mono ?_; rintro e w1 ⟨rfl, hb1⟩) | (go_at_call 65; refine (rCross_d _ (by with_reducible assumption) (by with_reducible assumption) (by with_reducible assumption) (by with_reducible assumption) (by decide)).mono ?_; rintro e w1 ⟨rfl, hb1⟩)))
            all_goals first | exact hK.out _ _ rfl (bl_refl _) | exact hK.out _ _ rfl (by assumption) | exact hK.out _ _ (by assumption) (by assumption)
          · cases ho
            have e1 : s 1 = _ := hs 1 (by decide) (by kernel_rfl)
            simp only [e1] at hK ⊢
            simp only [Act.put, List.setIfInBounds_toArray, List.set_cons_zero, List.set_cons_succ] at hK
            clear hs
            go_simp
            all_goals (try go_wp2_with (first | (go_at_call 83; refine (lead_d _ _ _ _ _ (by with_reducible assumption) (by with_reducible assumption) (by with_reducible assumption) (by with_reducible assumption)).mono ?_; rintro e w1 ⟨rfl, hb1⟩) | (go_at_call 65; refine (rCross_d _ (by with_reducible assumption) (by with_reducible assumption) (by with_reducible assumption) (by with_reducible assumption) (by decide)).mono ?_; rintro e w1 ⟨rfl, hb1⟩)))
            all_goals first | exact hK.out _ _ rfl (bl_refl _) | exact hK.out _ _ rfl (by assumption) | exact hK.out _ _ (by assumption) (by assumption)
          · cases ho
            simp only [Act.put, List.setIfInBounds_toArray, List.set_cons_zero, List.set_cons_succ] at hK
            clear hs
            go_simp
            all_goals (try go_wp2_with (first | (go_at_call 83; refine (lead_d _ _ _ _ _ (by with_reducible assumption) (by with_reducible assumption) (by with_reducible assumption) (by with_reducible assumption)).mono ?_; rintro e w1 ⟨rfl, hb1⟩) | (go_at_call 65; refine (rCross_d _ (by with_reducible assumption) (by with_reducible assumption) (by with_reducible assumption) (by with_reducible assumption) (by decide)).mono ?_; rintro e w1 ⟨rfl, hb1⟩)))
            all_goals first | exact hK.out _ _ rfl (bl_refl _) | exact hK.out _ _ rfl (by assumption) | exact hK.out _ _ (by assumption) (by assumption)
          · cases ho
            simp only [Act.put, List.setIfInBounds_toArray, List.set_cons_zero, List.set_cons_succ] at hK
            clear hs
            go_simp
            all_goals (try go_wp2_with (first | (go_at_call 83; refine (lead_d _ _ _ _ _ (by with_reducible assumption) (by with_reducible assumption) (by with_reducible assumption) (by with_reducible assumption)).mono ?_; rintro e w1 ⟨rfl, hb1⟩) | (go_at_call 65; refine (rCross_d _ (by with_reducible assumption) (by with_reducible assumption) (by with_reducible assumption) (by with_reducible assumption) (by decide)).mono ?_; rintro e w1 ⟨rfl, hb1⟩)))
            all_goals first | exact hK.out _ _ rfl (bl_refl _) | exact hK.out _ _ rfl (by assumption) | exact hK.out _ _ (by assumption) (by assumption)
          · cases ho
            have e3 : s 3 = _ := hs 3 (by decide) (by kernel_rfl)
            have e4 : s 4 = _ := hs 4 (by decide) (by kernel_rfl)
            simp only [e3, e4] at hK ⊢
            simp only [Act.put, List.setIfInBounds_toArray, List.set_cons_zero, List.set_cons_succ] at hK
            clear hs
            go_simp
            all_goals (try go_wp2_with (first | (go_at_call 83; refine (lead_d _ _ _ _ _ (by with_reducible assumption) (by with_reducible assumption) (by with_reducible assumption) (by with_reducible assumption)).mono ?_; rintro e w1 ⟨rfl, hb1⟩) | (go_at_call 65; refine (rCross_d _ (by with_reducible assumption) (by with_reducible assumption) (by with_reducible assumption) (by with_reducible assumption) (by decide)).mono ?_; rintro e w1 ⟨rfl, hb1⟩)))
            all_goals first | exact hK.out _ _ rfl (bl_refl _) | exact hK.out _ _ rfl (by assumption) | exact hK.out _ _ (by assumption) (by assumption)
          · cases ho
            have e5 : s 5 = _ := hs 5 (by decide) (by kernel_rfl)
            simp only [e5] at hK ⊢
            simp only [Act.put, List.setIfInBounds_toArray, List.set_cons_zero, List.set_cons_succ] at hK
            clear hs
            go_simp
            all_goals (try go_wp2_with (first | (go_at_call 83; refine (lead_d _ _ _ _ _ (by with_reducible assumption) (by with_reducible assumption) (by with_reducible assumption) (by with_reducible assumption)).mono ?_; rintro e w1 ⟨rfl, hb1⟩) | (go_at_call 65; refine (rCross_d _ (by with_reducible assumption) (by with_reducible assumption) (by with_reducible assumption) (by with_reducible assumption) (by decide)).mono ?_; rintro e w1 ⟨rfl, hb1⟩)))
            all_goals first | exact hK.out _ _ rfl (bl_refl _) | exact hK.out _ _ rfl (by assumption) | exact hK.out _ _ (by assumption) (by assumption)
          · cases ho
            have e2 : s 2 = _ := hs 2 (by decide) (by kernel_rfl)
            have e6 : s 6 = _ := hs 6 (by decide) (by kernel_rfl)
            simp only [e2, e6] at hK ⊢
            simp only [Act.put, List.setIfInBounds_toArray, List.set_cons_zero, List.set_cons_succ] at hK
            clear hs
            go_simp
            all_goals (try go_wp2_with (first | (go_at_call 83; refine (lead_d _ _ _ _ _ (by with_reducible assumption) (by with_reducible assumption) (by with_reducible assumption) (by with_reducible assumption)).mono ?_; rintro e w1 ⟨rfl, hb1⟩) | (go_at_call 65; refine (rCross_d _ (by with_reducible assumption) (by with_reducible assumption) (by with_reducible assumption) (by with_reducible assumption) (by decide)).mono ?_; rintro e w1 ⟨rfl, hb1⟩)))
            all_goals first | exact hK.out _ _ rfl (bl_refl _) | exact hK.out _ _ rfl (by assumption) | exact hK.out _ _ (by assumption) (by assumption)
          · cases ho
            simp only [Act.put, List.setIfInBounds_toArray, List.set_cons_zero, List.set_cons_succ] at hK
            clear hs
            go_simp
            all_goals (try go_wp2_with (first | (go_at_call 83; refine (lead_d _ _ _ _ _ (by with_reducible assumption) (by with_reducible assumption) (by with_reducible assumption) (by with_reducible assumption)).mono ?_; rintro e w1 ⟨rfl, hb1⟩) | (go_at_call 65; refine (rCross_d _ (by with_reducible assumption) (by with_reducible assumption) (by with_reducible assumption) (by with_reducible assumption) (by decide)).mono ?_; rintro e w1 ⟨rfl, hb1⟩)))
            all_goals first | exact hK.out _ _ rfl (bl_refl _) | exact hK.out _ _ rfl (by assumption) | exact hK.out _ _ (by assumption) (by assumption)
          · cases ho
            have e8 : s 8 = _ := hs 8 (by decide) (by kernel_rfl)
            simp only [e8] at hK ⊢
            simp only [Act.put, List.setIfInBounds_toArray, List.set_cons_zero, List.set_cons_succ] at hK
            clear hs
            go_simp
            all_goals (try go_wp2_with (first | (go_at_call 83; refine (lead_d _ _ _ _ _ (by with_reducible assumption) (by with_reducible assumption) (by with_reducible assumption) (by with_reducible assumption)).mono ?_; rintro e w1 ⟨rfl, hb1⟩) | (go_at_call 65; refine (rCross_d _ (by with_reducible assumption) (by with_reducible assumption) (by with_reducible assumption) (by with_reducible assumption) (by decide)).mono ?_; rintro e w1 ⟨rfl, hb1⟩)))
            all_goals first | exact hK.out _ _ rfl (bl_refl _) | exact hK.out _ _ rfl (by assumption) | exact hK.out _ _ (by assumption) (by assumption)
          · cases ho
            have e9 : s 9 = _ := hs 9 (by decide) (by kernel_rfl)
            simp only [e9] at hK ⊢
            simp only [Act.put, List.setIfInBounds_toArray, List.set_cons_zero, List.set_cons_succ] at hK
            clear hs
            go_simp
            all_goals (try go_wp2_with (first | (go_at_call 83; refine (lead_d _ _ _ _ _ (by with_reducible assumption) (by with_reducible assumption) (by with_reducible assumption) (by with_reducible assumption)).mono ?_; rintro e w1 ⟨rfl, hb1⟩) | (go_at_call 65; refine (rCross_d _ (by with_reducible assumption) (by with_reducible assumption) (by with_reducible assumption) (by with_reducible assumption) (by decide)).mono ?_; rintro e w1 ⟨rfl, hb1⟩)))
            all_goals first | exact hK.out _ _ rfl (bl_refl _) | exact hK.out _ _ rfl (by assumption) | exact hK.out _ _ (by assumption) (by assumption)
          · cases ho
            simp only [Act.put, List.setIfInBounds_toArray, List.set_cons_zero, List.set_cons_succ] at hK
            clear hs
            go_simp
            all_goals (try go_wp2_with (first | (go_at_call 83; refine (lead_d _ _ _ _ _ (by with_reducible assumption) (by with_reducible assumption) (by with_reducible assumption) (by with_reducible assumption)).mono ?_; rintro e w1 ⟨rfl, hb1⟩) | (go_at_call 65; refine (rCross_d _ (by with_reducible assumption) (by with_reducible assumption) (by with_reducible assumption) (by with_reducible assumption) (by decide)).mono ?_; rintro e w1 ⟨rfl, hb1⟩)))
            all_goals first | exact hK.out _ _ rfl (bl_refl _) | exact hK.out _ _ rfl (by assumption) | exact hK.out _ _ (by assumption) (by assumption)
          · cases ho
            simp only [Act.put, List.setIfInBounds_toArray, List.set_cons_zero, List.set_cons_succ] at hK
            clear hs
            go_simp
            all_goals (try go_wp2_with (first | (go_at_call 83; refine (lead_d _ _ _ _ _ (by with_reducible assumption) (by with_reducible assumption) (by with_reducible assumption) (by with_reducible assumption)).mono ?_; rintro e w1 ⟨rfl, hb1⟩) | (go_at_call 65; refine (rCross_d _ (by with_reducible assumption) (by with_reducible assumption) (by with_reducible assumption) (by with_reducible assumption) (by decide)).mono ?_; rintro e w1 ⟨rfl, hb1⟩)))
            all_goals first | exact hK.out _ _ rfl (bl_refl _) | exact hK.out _ _ rfl (by assumption) | exact hK.out _ _ (by assumption) (by assumption)
          · cases ho
            have e12 : s 12 = _ := hs 12 (by decide) (by kernel_rfl)
            simp only [e12] at hK ⊢
            simp only [Act.put, List.setIfInBounds_toArray, List.set_cons_zero, List.set_cons_succ] at hK
            clear hs
            go_simp
            all_goals (try go_wp2_with (first | (go_at_call 83; refine (lead_d _ _ _ _ _ (by with_reducible assumption) (by with_reducible assumption) (by with_reducible assumption) (by with_reducible assumption)).mono ?_; rintro e w1 ⟨rfl, hb1⟩) | (go_at_call 65; refine (rCross_d _ (by with_reducible assumption) (by with_reducible assumption) (by with_reducible assumption) (by with_reducible assumption) (by decide)).mono ?_; rintro e w1 ⟨rfl, hb1⟩)))
            all_goals first | exact hK.out _ _ rfl (bl_refl _) | exact hK.out _ _ rfl (by assumption) | exact hK.out _ _ (by assumption) (by assumption)
          · cases ho
            have e11 : s 11 = _ := hs 11 (by decide) (by kernel_rfl)
            have e13 : s 13 = _ := hs 13 (by decide) (by kernel_rfl)
            simp only [e11, e13] at hK ⊢
            simp only [Act.put, List.setIfInBounds_toArray, List.set_cons_zero, List.set_cons_succ] at hK
            clear hs
            go_simp
            all_goals (try go_wp2_with (first | (go_at_call 83; refine (lead_d _ _ _ _ _ (by with_reducible assumption) (by with_reducible assumption) (by with_reducible assumption) (by with_reducible assumption)).mono ?_; rintro e w1 ⟨rfl, hb1⟩) | (go_at_call 65; refine (rCross_d _ (by with_reducible assumption) (by with_reducible assumption) (by with_reducible assumption) (by with_reducible assumption) (by decide)).mono ?_; rintro e w1 ⟨rfl, hb1⟩)))
            all_goals first | exact hK.out _ _ rfl (bl_refl _) | exact hK.out _ _ rfl (by assumption) | exact hK.out _ _ (by assumption) (by assumption)
          · cases ho
            have e14 : s 14 = _ := hs 14 (by decide) (by kernel_rfl)
            simp only [e14] at hK ⊢
            simp only [Act.put, List.setIfInBounds_toArray, List.set_cons_zero, List.set_cons_succ] at hK
            clear hs
            go_simp
            all_goals (try go_wp2_with (first | (go_at_call 83; refine (lead_d _ _ _ _ _ (by with_reducible assumption) (by with_reducible assumption) (by with_reducible assumption) (by with_reducible assumption)).mono ?_; rintro e w1 ⟨rfl, hb1⟩) | (go_at_call 65; refine (rCross_d _ (by with_reducible assumption) (by with_reducible assumption) (by with_reducible assumption) (by with_reducible assumption) (by decide)).mono ?_; rintro e w1 ⟨rfl, hb1⟩)))
            all_goals first | exact hK.out _ _ rfl (bl_refl _) | exact hK.out _ _ rfl (by assumption) | exact hK.out _ _ (by assumption) (by assumption)
          · cases ho
            have e10 : s 10 = _ := hs 10 (by decide) (by kernel_rfl)
            have e15 : s 15 = _ := hs 15 (by decide) (by kernel_rfl)
            simp only [e10, e15] at hK ⊢
            simp only [Act.put, List.setIfInBounds_toArray, List.set_cons_zero, List.set_cons_succ] at hK
            clear hs
            go_simp
            all_goals (try go_wp2_with (first | (go_at_call 83; refine (lead_d _ _ _ _ _ (by with_reducible assumption) (by with_reducible assumption) (by with_reducible assumption) (by with_reducible assumption)).mono ?_; rintro e w1 ⟨rfl, hb1⟩) | (go_at_call 65; refine (rCross_d _ (by with_reducible assumption) (by with_reducible assumption) (by with_reducible assumption) (by with_reducible assumption) (by decide)).mono ?_; rintro e w1 ⟨rfl, hb1⟩)))
            all_goals first | exact hK.out _ _ rfl (bl_refl _) | exact hK.out _ _ rfl (by assumption) | exact hK.out _ _ (by assumption) (by assumption)
          · cases ho
            have e7 : s 7 = _ := hs 7 (by decide) (by kernel_rfl)
            have e16 : s 16 = _ := hs 16 (by decide) (by kernel_rfl)
            simp only [e7, e16] at hK ⊢
            simp only [Act.put, List.setIfInBounds_toArray, List.set_cons_zero, List.set_cons_succ] at hK
            clear hs
            go_simp
            all_goals (try go_wp2_with (first | (go_at_call 83; refine (lead_d _ _ _ _ _ (by with_reducible assumption) (by with_reducible assumption) (by with_reducible assumption) (by with_reducible assumption)).mono ?_; rintro e w1 ⟨rfl, hb1⟩) | (go_at_call 65; refine (rCross_d _ (by with_reducible assumption) (by with_reducible assumption) (by with_reducible assumption) (by with_reducible assumption) (by decide)).mono ?_; rintro e w1 ⟨rfl, hb1⟩)))
            all_goals first | exact hK.out _ _ rfl (bl_refl _) | exact hK.out _ _ rfl (by assumption) | exact hK.out _ _ (by assumption) (by assumption)
          · cases ho
            have e17 : s 17 = _ := hs 17 (by decide) (by kernel_rfl)
            simp only [e17] at hK ⊢
            simp only [Act.put, List.setIfInBounds_toArray, List.set_cons_zero, List.set_cons_succ] at hK
            clear hs
            go_simp
            all_goals (try go_wp2_with (first | (go_at_call 83; refine (lead_d _ _ _ _ _ (by with_reducible assumption) (by with_reducible assumption) (by with_reducible assumption) (by with_reducible assumption)).mono ?_; rintro e w1 ⟨rfl, hb1⟩) | (go_at_call 65; refine (rCross_d _ (by with_reducible assumption) (by with_reducible assumption) (by with_reducible assumption) (by with_reducible assumption) (by decide)).mono ?_; rintro e w1 ⟨rfl, hb1⟩)))
            all_goals first | exact hK.out _ _ rfl (bl_refl _) | exact hK.out _ _ rfl (by assumption) | exact hK.out _ _ (by assumption) (by assumption)
        case ht_wh =>
          intro s hs W hb hJ
          have e0 : s 0 = _ := hs 0 (by decide)
          have e1 : s 1 = _ := hs 1 (by decide)
          have e2 : s 2 = _ := hs 2 (by decide)
          have e3 : s 3 = _ := hs 3 (by decide)
          have e4 : s 4 = _ := hs 4 (by decide)
          have e5 : s 5 = _ := hs 5 (by decide)
          have e6 : s 6 = _ := hs 6 (by decide)
          have e7 : s 7 = _ := hs 7 (by decide)
          have e8 : s 8 = _ := hs 8 (by decide)
          have e9 : s 9 = _ := hs 9 (by decide)
          have e10 : s 10 = _ := hs 10 (by decide)
          have e11 : s 11 = _ := hs 11 (by decide)
          have e12 : s 12 = _ := hs 12 (by decide)
          have e13 : s 13 = _ := hs 13 (by decide)
          have e14 : s 14 = _ := hs 14 (by decide)
          have e15 : s 15 = _ := hs 15 (by decide)
          have e16 : s 16 = _ := hs 16 (by decide)
          have e17 : s 17 = _ := hs 17 (by decide)
          have e18 : s 18 = _ := hs 18 (by decide)
          simp only [e0, e1, e2, e3, e4, e5, e6, e7, e8, e9, e10, e11, e12, e13, e14, e15, e16, e17, e18]
          clear hs
          refine tail_end ?_
          go_wp2
          refine ⟨⟨kx + 1, _, by omega, by omega, by go_num, fun _ => ?_, rfl, bl_trans hB hb⟩, by simp [intOf]; omega⟩
          have h1 := unhide h1'
          subst h1
          rfl
      · have x1 : ((kx : Int) == 1) = false := by simp; omega
        have x2 : ¬ (kx : Int) = 1 := by omega
        obtain ⟨sb1, _, _⟩ := s_bd g (kx - 2) (by omega) (by omega)
        rw [hf (by omega)] at sb1
        obtain ⟨tb1, _, _⟩ := t_bd u0 u1 v0 v1 v2 v3
        have qa := fun t W => run_add_dv Tryz.prog t f (tA (xs 0) (ys 0) (xs kx) (ys kx) (xs (kx + 1)) (ys (kx + 1))) W sb1.2.1 tb1.2.1
        go_wp2
        refine wp_region_multiA 19 (fun i v => match i with | 0 => v = .slice (some ⟨b, off, none⟩) n cap | 1 => v = .pointer (some ⟨b, off, none⟩) | 2 => v = .agg #[.float .f64 (xs 0), .float .f64 (ys 0)] | 3 => v = .slice (some ⟨b, off, none⟩) n cap | 4 => v = .int .i64 (kx : Int) | 5 => v = .pointer (some ⟨b, off + kx * 2, none⟩) | 6 => v = .agg #[.float .f64 (xs kx), .float .f64 (ys kx)] | 7 => v = .agg #[.float .f64 (Dv .sub (xs kx) (xs 0)), .float .f64 (Dv .sub (ys kx) (ys 0))] | 8 => v = .slice (some ⟨b, off, none⟩) n cap | 9 => v = .pointer (some ⟨b, off, none⟩) | 10 => v = .agg #[.float .f64 (xs 0), .float .f64 (ys 0)] | 11 => v = .slice (some ⟨b, off, none⟩) n cap | 12 => v = .int .i64 (kx : Int) | 13 => v = .int .i64 ((kx : Int) + 1) | 14 => v = .pointer (some ⟨b, off + (kx + 1) * 2, none⟩) | 15 => v = .agg #[.float .f64 (xs (kx + 1)), .float .f64 (ys (kx + 1))] | 16 => v = .agg #[.float .f64 (Dv .sub (xs (kx + 1)) (xs 0)), .float .f64 (Dv .sub (ys (kx + 1)) (ys 0))] | 17 => v = .float .f64 (tA (xs 0) (ys 0) (xs kx) (ys kx) (xs (kx + 1)) (ys (kx + 1))) | 18 => v = .float .f64 (tA (xs 0) (ys 0) (xs kx) (ys kx) (xs (kx + 1)) (ys (kx + 1))) | _ => False) (fun i => match i with  | _ => none) ?A_wh (by kernel_rfl) (by kernel_rfl) ?hA_wh ?ha_wh ?hq_wh [] rfl ?ht_wh
        case hA_wh =>
          intro s
          simp only [putL, dstO, Act.put, List.getElem?_toArray, List.getElem?_cons_zero, List.getElem?_cons_succ, Option.bind_some, List.setIfInBounds_toArray, List.set_cons_zero, List.set_cons_succ, if_true]
          all_goals exact rfl
        case ha_wh =>
          intro i o ob hi ho hal
          rcases (show i = 0 ∨ i = 1 ∨ i = 2 ∨ i = 3 ∨ i = 4 ∨ i = 5 ∨ i = 6 ∨ i = 7 ∨ i = 8 ∨ i = 9 ∨ i = 10 ∨ i = 11 ∨ i = 12 ∨ i = 13 ∨ i = 14 ∨ i = 15 ∨ i = 16 ∨ i = 17 ∨ i = 18 by omega) with rfl | rfl | rfl | rfl | rfl | rfl | rfl | rfl | rfl | rfl | rfl | rfl | rfl | rfl | rfl | rfl | rfl | rfl | rfl
          · cases hal
          · cases hal
          · cases hal
          · cases hal
          · cases hal
          · cases hal
          · cases hal
          · cases hal
          · cases hal
          · cases hal
          · cases hal
          · cases hal
          · cases hal
          · cases hal
          · cases hal
          · cases hal
          · cases hal
          · cases hal
          · cases hal
        case hq_wh =>
          intro i o hi ho hal s hs W hb K hK
          obtain ⟨y0, y1⟩ := (sB.bel (bl_trans hB hb)) 0 hp; simp only [Nat.zero_mul, Nat.add_zero] at y0 y1; obtain ⟨y2, y3⟩ := (sB.bel (bl_trans hB hb)) kx (by omega); obtain ⟨y4, y5⟩ := (sB.bel (bl_trans hB hb)) (kx + 1) hlt
          rcases (show i = 0 ∨ i = 1 ∨ i = 2 ∨ i = 3 ∨ i = 4 ∨ i = 5 ∨ i = 6 ∨ i = 7 ∨ i = 8 ∨ i = 9 ∨ i = 10 ∨ i = 11 ∨ i = 12 ∨ i = 13 ∨ i = 14 ∨ i = 15 ∨ i = 16 ∨ i = 17 ∨ i = 18 by omega) with rfl | rfl | rfl | rfl | rfl | rfl | rfl | rfl | rfl | rfl | rfl | rfl | rfl | rfl | rfl | rfl | rfl | rfl | rfl
          · cases ho
            simp only [Act.put, List.setIfInBounds_toArray, List.set_cons_zero, List.set_cons_succ] at hK
            clear hs
            go_simp
            all_goals (try go_wp2_with (first | (go_at_call 83; refine (lead_d _ _ _ _ _ (by with_reducible assumption) (by with_reducible assumption) (by with_reducible assumption) (by with_reducible assumption)).mono ?_; rintro e w1 ⟨rfl, hb1⟩) | (go_at_call 65; refine (rCross_d _ (by with_reducible assumption) (by with_reducible assumption) (by with_reducible assumption) (by with_reducible assumption) (by decide)).mono ?_; rintro e w1 ⟨rfl, hb1⟩)))
            all_goals first | exact hK.out _ _ rfl (bl_refl _) | exact hK.out _ _ rfl (by assumption) | exact hK.out _ _ (by assumption) (by assumption)
          · cases ho
            have e0 : s 0 = _ := hs 0 (by decide) (by kernel_rfl)
            simp only [e0] at hK ⊢
            simp only [Act.put, List.setIfInBounds_toArray, List.set_cons_zero, List.set_cons_succ] at hK
            clear hs
            go_simp
            all_goals (try go_wp2_with (first | (go_at_call 83; refine (lead_d _ _ _ _ _ (by with_reducible assumption) (by with_reducible assumption) (by with_reducible assumption) (by with_reducible assumption)).mono ?_; rintro e w1 ⟨rfl, hb1⟩) | (go_at_call 65; refine (rCross_d _ (by with_reducible assumption) (by with_reducible assumption) (by with_reducible assumption) (by with_reducible assumption) (by decide)).mono ?_; rintro e w1 ⟨rfl, hb1⟩)))
            all_goals first | exact hK.out _ _ rfl (bl_refl _) | exact hK.out _ _ rfl (by assumption) | exact hK.out _ _ (by assumption) (by assumption)
          · cases ho
            have e1 : s 1 = _ := hs 1 (by decide) (by kernel_rfl)
            simp only [e1] at hK ⊢
            simp only [Act.put, List.setIfInBounds_toArray, List.set_cons_zero, List.set_cons_succ] at hK
            clear hs
            go_simp
            all_goals (try go_wp2_with (first | (go_at_call 83; refine (lead_d _ _ _ _ _ (by with_reducible assumption) (by with_reducible assumption) (by with_reducible assumption) (by with_reducible assumption)).mono ?_; rintro e w1 ⟨rfl, hb1⟩) | (go_at_call 65; refine (rCross_d _ (by with_reducible assumption) (by with_reducible assumption) (by with_reducible assumption) (by with_reducible assumption) (by decide)).mono ?_; rintro e w1 ⟨rfl, hb1⟩)))
            all_goals first | exact hK.out _ _ rfl (bl_refl _) | exact hK.out _ _ rfl (by assumption) | exact hK.out _ _ (by assumption) (by assumption)
          · cases ho
            simp only [Act.put, List.setIfInBounds_toArray, List.set_cons_zero, List.set_cons_succ] at hK
            clear hs
            go_simp
            all_goals (try go_wp2_with (first | (go_at_call 83; refine (lead_d _ _ _ _ _ (by with_reducible assumption) (by with_reducible assumption) (by with_reducible assumption) (by with_reducible assumption)).mono ?_; rintro e w1 ⟨rfl, hb1⟩) | (go_at_call 65; refine (rCross_d _ (by with_reducible assumption) (by with_reducible assumption) (by with_reducible assumption) (by with_reducible assumption) (by decide)).mono ?_; rintro e w1 ⟨rfl, hb1⟩)))
            all_goals first | exact hK.out _ _ rfl (bl_refl _) | exact hK.out _ _ rfl (by assumption) | exact hK.out _ _ (by assumption) (by assumption)
          · cases ho
            simp only [Act.put, List.setIfInBounds_toArray, List.set_cons_zero, List.set_cons_succ] at hK
            clear hs
            go_simp
            all_goals (try go_wp2_with (first | (go_at_call 83; refine (lead_d _ _ _ _ _ (by with_reducible assumption) (by with_reducible assumption) (by with_reducible assumption) (by with_reducible assumption)).mono ?_; rintro e w1 ⟨rfl, hb1⟩) | (go_at_call 65; refine (rCross_d _ (by with_reducible assumption) (by with_reducible assumption) (by with_reducible assumption) (by with_reducible assumption) (by decide)).mono ?_; rintro e w1 ⟨rfl, hb1⟩)))
            all_goals first | exact hK.out _ _ rfl (bl_refl _) | exact hK.out _ _ rfl (by assumption) | exact hK.out _ _ (by assumption) (by assumption)
          · cases ho
            have e3 : s 3 = _ := hs 3 (by decide) (by kernel_rfl)
            have e4 : s 4 = _ := hs 4 (by decide) (by kernel_rfl)
            simp only [e3, e4] at hK ⊢
            simp only [Act.put, List.setIfInBounds_toArray, List.set_cons_zero, List.set_cons_succ] at hK
            clear hs
            go_simp
            all_goals (try go_wp2_with (first | (go_at_call 83; refine (lead_d _ _ _ _ _ (by with_reducible assumption) (by with_reducible assumption) (by with_reducible assumption) (by with_reducible assumption)).mono ?_; rintro e w1 ⟨rfl, hb1⟩) | (go_at_call 65; refine (rCross_d _ (by with_reducible assumption) (by with_reducible assumption) (by with_reducible assumption) (by with_reducible assumption) (by decide)).mono ?_; rintro e w1 ⟨rfl, hb1⟩)))
            all_goals first | exact hK.out _ _ rfl (bl_refl _) | exact hK.out _ _ rfl (by assumption) | exact hK.out _ _ (by assumption) (by assumption)
          · cases ho
            have e5 : s 5 = _ := hs 5 (by decide) (by kernel_rfl)
            simp only [e5] at hK ⊢
            simp only [Act.put, List.setIfInBounds_toArray, List.set_cons_zero, List.set_cons_succ] at hK
            clear hs
            go_simp
            all_goals (try go_wp2_with (first | (go_at_call 83; refine (lead_d _ _ _ _ _ (by with_reducible assumption) (by with_reducible assumption) (by with_reducible assumption) (by with_reducible assumption)).mono ?_; rintro e w1 ⟨rfl, hb1⟩) | (go_at_call 65; refine (rCross_d _ (by with_reducible assumption) (by with_reducible assumption) (by with_reducible assumption) (by with_reducible assumption) (by decide)).mono ?_; rintro e w1 ⟨rfl, hb1⟩)))
            all_goals first | exact hK.out _ _ rfl (bl_refl _) | exact hK.out _ _ rfl (by assumption) | exact hK.out _ _ (by assumption) (by assumption)
          · cases ho
            have e2 : s 2 = _ := hs 2 (by decide) (by kernel_rfl)
            have e6 : s 6 = _ := hs 6 (by decide) (by kernel_rfl)
            simp only [e2, e6] at hK ⊢
            simp only [Act.put, List.setIfInBounds_toArray, List.set_cons_zero, List.set_cons_succ] at hK
            clear hs
            go_simp
            all_goals (try go_wp2_with (first | (go_at_call 83; refine (lead_d _ _ _ _ _ (by with_reducible assumption) (by with_reducible assumption) (by with_reducible assumption) (by with_reducible assumption)).mono ?_; rintro e w1 ⟨rfl, hb1⟩) | (go_at_call 65; refine (rCross_d _ (by with_reducible assumption) (by with_reducible assumption) (by with_reducible assumption) (by with_reducible assumption) (by decide)).mono ?_; rintro e w1 ⟨rfl, hb1⟩)))
            all_goals first | exact hK.out _ _ rfl (bl_refl _) | exact hK.out _ _ rfl (by assumption) | exact hK.out _ _ (by assumption) (by assumption)
          · cases ho
            simp only [Act.put, List.setIfInBounds_toArray, List.set_cons_zero, List.set_cons_succ] at hK
            clear hs
            go_simp
            all_goals (try go_wp2_with (first | (go_at_call 83; refine (lead_d _ _ _ _ _ (by with_reducible assumption) (by with_reducible assumption) (by with_reducible assumption) (by with_reducible assumption)).mono ?_; rintro e w1 ⟨rfl, hb1⟩) | (go_at_call 65; refine (rCross_d _ (by with_reducible assumption) (by with_reducible assumption) (by with_reducible assumption) (by with_reducible assumption) (by decide)).mono ?_; rintro e w1 ⟨rfl, hb1⟩)))
            all_goals first | exact hK.out _ _ rfl (bl_refl _) | exact hK.out _ _ rfl (by assumption) | exact hK.out _ _ (by assumption) (by assumption)
          · cases ho
            have e8 : s 8 = _ := hs 8 (by decide) (by kernel_rfl)
            simp only [e8] at hK ⊢
            simp only [Act.put, List.setIfInBounds_toArray, List.set_cons_zero, List.set_cons_succ] at hK
            clear hs
            go_simp
            all_goals (try go_wp2_with (first | (go_at_call 83; refine (lead_d _ _ _ _ _ (by with_reducible assumption) (by with_reducible assumption) (by with_reducible assumption) (by with_reducible assumption)).mono ?_; rintro e w1 ⟨rfl, hb1⟩) | (go_at_call 65; refine (rCross_d _ (by with_reducible assumption) (by with_reducible assumption) (by with_reducible assumption) (by with_reducible assumption) (by decide)).mono ?_; rintro e w1 ⟨rfl, hb1⟩)))
            all_goals first | exact hK.out _ _ rfl (bl_refl _) | exact hK.out _ _ rfl (by assumption) | exact hK.out _ _ (by assumption) (by assumption)
          · cases ho
            have e9 : s 9 = _ := hs 9 (by decide) (by kernel_rfl)
            simp only [e9] at hK ⊢
            simp only [Act.put, List.setIfInBounds_toArray, List.set_cons_zero, List.set_cons_succ] at hK
            clear hs
            go_simp
            all_goals (try go_wp2_with (first | (go_at_call 83; refine (lead_d _ _ _ _ _ (by with_reducible assumption) (by with_reducible assumption) (by with_reducible assumption) (by with_reducible assumption)).mono ?_; rintro e w1 ⟨rfl, hb1⟩) | (go_at_call 65; refine (rCross_d _ (by with_reducible assumption) (by with_reducible assumption) (by with_reducible assumption) (by with_reducible assumption) (by decide)).mono ?_; rintro e w1 ⟨rfl, hb1⟩)))
            all_goals first | exact hK.out _ _ rfl (bl_refl _) | exact hK.out _ _ rfl (by assumption) | exact hK.out _ _ (by assumption) (by assumption)
          · cases ho
            simp only [Act.put, List.setIfInBounds_toArray, List.set_cons_zero, List.set_cons_succ] at hK
            clear hs
            go_simp
            all_goals (try go_wp2_with (first | (go_at_call 83; refine (lead_d _ _ _ _ _ (by with_reducible assumption) (by with_reducible assumption) (by with_reducible assumption) (by with_reducible assumption)).mono ?_; rintro e w1 ⟨rfl, hb1⟩) | (go_at_call 65; refine (rCross_d _ (by with_reducible assumption) (by with_reducible assumption) (by with_reducible assumption) (by with_reducible assumption) (by decide)).mono ?_; rintro e w1 ⟨rfl, hb1⟩)))
            all_goals first | exact hK.out _ _ rfl (bl_refl _) | exact hK.out _ _ rfl (by assumption) | exact hK.out _ _ (by assumption) (by assumption)
          · cases ho
            simp only [Act.put, List.setIfInBounds_toArray, List.set_cons_zero, List.set_cons_succ] at hK
            clear hs
            go_simp
            all_goals (try go_wp2_with (first | (go_at_call 83; refine (lead_d _ _ _ _ _ (by with_reducible assumption) (by with_reducible assumption) (by with_reducible assumption) (by with_reducible assumption)).mono ?_; rintro e w1 ⟨rfl, hb1⟩) | (go_at_call 65; refine (rCross_d _ (by with_reducible assumption) (by with_reducible assumption) (by with_reducible assumption) (by with_reducible assumption) (by decide)).mono ?_; rintro e w1 ⟨rfl, hb1⟩)))
            all_goals first | exact hK.out _ _ rfl (bl_refl _) | exact hK.out _ _ rfl (by assumption) | exact hK.out _ _ (by assumption) (by assumption)
          · cases ho
            have e12 : s 12 = _ := hs 12 (by decide) (by kernel_rfl)
            simp only [e12] at hK ⊢
            simp only [Act.put, List.setIfInBounds_toArray, List.set_cons_zero, List.set_cons_succ] at hK
            clear hs
            go_simp
            all_goals (try go_wp2_with (first | (go_at_call 83; refine (lead_d _ _ _ _ _ (by with_reducible assumption) (by with_reducible assumption) (by with_reducible assumption) (by with_reducible assumption)).mono ?_; rintro e w1 ⟨rfl, hb1⟩) | (go_at_call 65; refine (rCross_d _ (by with_reducible assumption) (by with_reducible assumption) (by with_reducible assumption) (by with_reducible assumption) (by decide)).mono ?_; rintro e w1 ⟨rfl, hb1⟩)))
            all_goals first | exact hK.out _ _ rfl (bl_refl _) | exact hK.out _ _ rfl (by assumption) | exact hK.out _ _ (by assumption) (by assumption)
          · cases ho
            have e11 : s 11 = _ := hs 11 (by decide) (by kernel_rfl)
            have e13 : s 13 = _ := hs 13 (by decide) (by kernel_rfl)
            simp only [e11, e13] at hK ⊢
            simp only [Act.put, List.setIfInBounds_toArray, List.set_cons_zero, List.set_cons_succ] at hK
            clear hs
            go_simp
            all_goals (try go_wp2_with (first | (go_at_call 83; refine (lead_d _ _ _ _ _ (by with_reducible assumption) (by with_reducible assumption) (by with_reducible assumption) (by with_reducible assumption)).mono ?_; rintro e w1 ⟨rfl, hb1⟩) | (go_at_call 65; refine (rCross_d _ (by with_reducible assumption) (by with_reducible assumption) (by with_reducible assumption) (by with_reducible assumption) (by decide)).mono ?_; rintro e w1 ⟨rfl, hb1⟩)))
            all_goals first | exact hK.out _ _ rfl (bl_refl _) | exact hK.out _ _ rfl (by assumption) | exact hK.out _ _ (by assumption) (by assumption)
          · cases ho
            have e14 : s 14 = _ := hs 14 (by decide) (by kernel_rfl)
            simp only [e14] at hK ⊢
            simp only [Act.put, List.setIfInBounds_toArray, List.set_cons_zero, List.set_cons_succ] at hK
            clear hs
            go_simp
            all_goals (try go_wp2_with (first | (go_at_call 83; refine (lead_d _ _ _ _ _ (by with_reducible assumption) (by with_reducible assumption) (by with_reducible assumption) (by with_reducible assumption)).mono ?_; rintro e w1 ⟨rfl, hb1⟩) | (go_at_call 65; refine (rCross_d _ (by with_reducible assumption) (by with_reducible assumption) (by with_reducible assumption) (by with_reducible assumption) (by decide)).mono ?_; rintro e w1 ⟨rfl, hb1⟩)))
            all_goals first | exact hK.out _ _ rfl (bl_refl _) | exact hK.out _ _ rfl (by assumption) | exact hK.out _ _ (by assumption) (by assumption)
          · cases ho
            have e10 : s 10 = _ := hs 10 (by decide) (by kernel_rfl)
            have e15 : s 15 = _ := hs 15 (by decide) (by kernel_rfl)
            simp only [e10, e15] at hK ⊢
            simp only [Act.put, List.setIfInBounds_toArray, List.set_cons_zero, List.set_cons_succ] at hK
            clear hs
            go_simp
            all_goals (try go_wp2_with (first | (go_at_call 83; refine (lead_d _ _ _ _ _ (by with_reducible assumption) (by with_reducible assumption) (by with_reducible assumption) (by with_reducible assumption)).mono ?_; rintro e w1 ⟨rfl, hb1⟩) | (go_at_call 65; refine (rCross_d _ (by with_reducible assumption) (by with_reducible assumption) (by with_reducible assumption) (by with_reducible assumption) (by decide)).mono ?_; rintro e w1 ⟨rfl, hb1⟩)))
            all_goals first | exact hK.out _ _ rfl (bl_refl _) | exact hK.out _ _ rfl (by assumption) | exact hK.out _ _ (by assumption) (by assumption)
          · cases ho
            have e7 : s 7 = _ := hs 7 (by decide) (by kernel_rfl)
            have e16 : s 16 = _ := hs 16 (by decide) (by kernel_rfl)
            simp only [e7, e16] at hK ⊢
            simp only [Act.put, List.setIfInBounds_toArray, List.set_cons_zero, List.set_cons_succ] at hK
            clear hs
            go_simp
            all_goals (try go_wp2_with (first | (go_at_call 83; refine (lead_d _ _ _ _ _ (by with_reducible assumption) (by with_reducible assumption) (by with_reducible assumption) (by with_reducible assumption)).mono ?_; rintro e w1 ⟨rfl, hb1⟩) | (go_at_call 65; refine (rCross_d _ (by with_reducible assumption) (by with_reducible assumption) (by with_reducible assumption) (by with_reducible assumption) (by decide)).mono ?_; rintro e w1 ⟨rfl, hb1⟩)))
            all_goals first | exact hK.out _ _ rfl (bl_refl _) | exact hK.out _ _ rfl (by assumption) | exact hK.out _ _ (by assumption) (by assumption)
          · cases ho
            have e17 : s 17 = _ := hs 17 (by decide) (by kernel_rfl)
            simp only [e17] at hK ⊢
            simp only [Act.put, List.setIfInBounds_toArray, List.set_cons_zero, List.set_cons_succ] at hK
            clear hs
            go_simp
            all_goals (try go_wp2_with (first | (go_at_call 83; refine (lead_d _ _ _ _ _ (by with_reducible assumption) (by with_reducible assumption) (by with_reducible assumption) (by with_reducible assumption)).mono ?_; rintro e w1 ⟨rfl, hb1⟩) | (go_at_call 65; refine (rCross_d _ (by with_reducible assumption) (by with_reducible assumption) (by with_reducible assumption) (by with_reducible assumption) (by decide)).mono ?_; rintro e w1 ⟨rfl, hb1⟩)))
            all_goals first | exact hK.out _ _ rfl (bl_refl _) | exact hK.out _ _ rfl (by assumption) | exact hK.out _ _ (by assumption) (by assumption)
        case ht_wh =>
          intro s hs W hb hJ
          have e0 : s 0 = _ := hs 0 (by decide)
          have e1 : s 1 = _ := hs 1 (by decide)
          have e2 : s 2 = _ := hs 2 (by decide)
          have e3 : s 3 = _ := hs 3 (by decide)
          have e4 : s 4 = _ := hs 4 (by decide)
          have e5 : s 5 = _ := hs 5 (by decide)
          have e6 : s 6 = _ := hs 6 (by decide)
          have e7 : s 7 = _ := hs 7 (by decide)
          have e8 : s 8 = _ := hs 8 (by decide)
          have e9 : s 9 = _ := hs 9 (by decide)
          have e10 : s 10 = _ := hs 10 (by decide)
          have e11 : s 11 = _ := hs 11 (by decide)
          have e12 : s 12 = _ := hs 12 (by decide)
          have e13 : s 13 = _ := hs 13 (by decide)
          have e14 : s 14 = _ := hs 14 (by decide)
          have e15 : s 15 = _ := hs 15 (by decide)
          have e16 : s 16 = _ := hs 16 (by decide)
          have e17 : s 17 = _ := hs 17 (by decide)
          have e18 : s 18 = _ := hs 18 (by decide)
          simp only [e0, e1, e2, e3, e4, e5, e6, e7, e8, e9, e10, e11, e12, e13, e14, e15, e16, e17, e18]
          clear hs
          refine tail_end ?_
          go_wp2
          refine ⟨⟨kx + 1, _, by omega, by omega, by go_num, fun _ => ?_, rfl, bl_trans hB hb⟩, by simp [intOf]; omega⟩
          rw [show kx + 1 - 2 = (kx - 2) + 1 by omega]
          show Dv .add (sA xs ys (kx - 2)) _ = _
          rw [hf (by omega), show kx - 2 + 2 = kx by omega, show kx - 2 + 3 = kx + 1 by omega]
    · have j1 : ¬ (kx : Int) < (n : Int) - 1 := by omega
      go_wp2
      go_ret
      exact ⟨by rw [← hf (by omega), show kx - 2 = n - 3 by omega]; rfl, hB⟩

end Go.Proofs.YtfaiaepkmlmoaaaGreat
