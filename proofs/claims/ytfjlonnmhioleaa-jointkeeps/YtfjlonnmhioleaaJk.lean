/-
  What each function of package poly answers, and what the reference of its chapter answers: one contract a function, for every float: the answer stands in the relation of its formula to what was given; of the memory that was there nothing has turned.
-/
import Derived.Test.YtfjlonnmhioleaaVec
import Derived.Test.YtfjlonnmhioleaaJj
import Derived.Below
import Derived.WalkKit
import Derived.WalkLawsBesides
import Derived.WalkSpells
import Derived.ProofKit
import Derived.OpenShut
import Derived.Deep.RegionHeld3
namespace Go.Proofs.Ytfjlonnmhioleaa
open Go.ChangeShapes Go.WideShapes Go.ChangeAt Go.RowKit
set_option linter.unusedVariables false
set_option linter.unusedSimpArgs false


theorem sameRows_nil (a b : Option Addr) (c d : Nat) (w : World) : Calls Try.prog 10 #[.slice a 0 c, .slice b 0 d] w fun e w' => e = .returned (.bool true) ∧ Bel w w' := by
  go_enter Try.func10, Try.ntmps10
  go_wp2
  refine wp_loop_rounds 1 ?_
  rw [rounds_succ]
  go_wp2
  go_ret
  exact ⟨rfl, bl_refl _⟩
set_option maxHeartbeats 1000000 in
theorem sameRows_some (g o1 c b o2 d n : Nat) (Q : Nat → RD) (w : World) (hA : Rws w g o1 n Q) (hs : Rws w b o2 n Q) (o : ∀ i, i < n → rok (Q i)) (hn : n ≤ 1000) (h1 : n ≤ c) (h2 : n ≤ d) (hp : 0 < n) : Calls Try.prog 10 #[.slice (some ⟨g, o1, none⟩) n c, .slice (some ⟨b, o2, none⟩) n d] w fun e w' => e = .returned (.bool true) ∧ Bel w w' := by
  go_enter Try.func10, Try.ntmps10
  go_wp2
  go_loopw [5] (fun i' wr => ∃ j : Nat, j ≤ n ∧ i' = .int .i64 j ∧ Bel w wr) (fun i' _ => n - (intOf i').toNat)
  case atStart => exact ⟨0, by omega, rfl, bl_refl _⟩
  case round =>
    obtain ⟨j, hj, rfl, hB⟩ := hrel
    by_cases hlt : j < n
    · have k1 : (j : Int) < (n : Int) := by omega
      have x0 : wr.rangeAt g (o1 + j * 14) [.int .i64 (Q j).ra, .int .i64 (Q j).rb, .float .f64 (Q j).r2, .float .f64 (Q j).r3, .float .f64 (Q j).r4, .float .f64 (Q j).r5, .float .f64 (Q j).r6, .float .f64 (Q j).r7, .float .f64 (Q j).r8, .float .f64 (Q j).r9, .float .f64 (Q j).r10, .float .f64 (Q j).r11, .int .i64 (Q j).ro, .float .f64 (Q j).r13] := (hA.bel hB) j hlt
      have x1 : wr.rangeAt b (o2 + j * 14) [.int .i64 (Q j).ra, .int .i64 (Q j).rb, .float .f64 (Q j).r2, .float .f64 (Q j).r3, .float .f64 (Q j).r4, .float .f64 (Q j).r5, .float .f64 (Q j).r6, .float .f64 (Q j).r7, .float .f64 (Q j).r8, .float .f64 (Q j).r9, .float .f64 (Q j).r10, .float .f64 (Q j).r11, .int .i64 (Q j).ro, .float .f64 (Q j).r13] := (hs.bel hB) j hlt
      have hro := o j hlt
      have hb3 := Nat.lt_of_lt_of_le (hA.lt hp) hB.size
      have hb4 := Nat.lt_of_lt_of_le (hs.lt hp) hB.size
      clear hA hs o
      go_wp2
      refine wp_region_mono 10 rfl (fun i W v => match i with | 0 => v = .slice (some ⟨g, o1, none⟩) n c | 1 => v = .int .i64 (j : Int) | 2 => v = .pointer (some ⟨g, o1 + j * 14, none⟩) | 3 => v = .agg #[.int .i64 (Q j).ra, .int .i64 (Q j).rb, .float .f64 (Q j).r2, .float .f64 (Q j).r3, .float .f64 (Q j).r4, .float .f64 (Q j).r5, .float .f64 (Q j).r6, .float .f64 (Q j).r7, .float .f64 (Q j).r8, .float .f64 (Q j).r9, .float .f64 (Q j).r10, .float .f64 (Q j).r11, .int .i64 (Q j).ro, .float .f64 (Q j).r13] | 4 => v = .slice (some ⟨b, o2, none⟩) n d | 5 => v = .int .i64 (j : Int) | 6 => v = .pointer (some ⟨b, o2 + j * 14, none⟩) | 7 => v = .agg #[.int .i64 (Q j).ra, .int .i64 (Q j).rb, .float .f64 (Q j).r2, .float .f64 (Q j).r3, .float .f64 (Q j).r4, .float .f64 (Q j).r5, .float .f64 (Q j).r6, .float .f64 (Q j).r7, .float .f64 (Q j).r8, .float .f64 (Q j).r9, .float .f64 (Q j).r10, .float .f64 (Q j).r11, .int .i64 (Q j).ro, .float .f64 (Q j).r13] | 8 => v = .bool true | 9 => v = .bool false | _ => False) ?A_wm (by kernel_rfl) (by kernel_rfl) ?hA_wm ?hmo_wm ?hq_wm ?ht_wm
      case hA_wm =>
        intro s
        simp only [putL, dstO, Act.put, List.getElem?_toArray, List.getElem?_cons_zero, List.getElem?_cons_succ, Option.bind_some, List.setIfInBounds_toArray, List.set_cons_zero, List.set_cons_succ, if_true]
        all_goals exact rfl
      case hmo_wm =>
        intro i W W' v hi hb h
        rcases (show i = 0 ∨ i = 1 ∨ i = 2 ∨ i = 3 ∨ i = 4 ∨ i = 5 ∨ i = 6 ∨ i = 7 ∨ i = 8 ∨ i = 9 by omega) with rfl | rfl | rfl | rfl | rfl | rfl | rfl | rfl | rfl | rfl
        all_goals first | exact h
      case hq_wm =>
        intro i o hi ho s W hs hb K hK
        have hb5 := Nat.lt_of_lt_of_le hb3 hb.size; have hb6 := Nat.lt_of_lt_of_le hb4 hb.size
        rcases (show i = 0 ∨ i = 1 ∨ i = 2 ∨ i = 3 ∨ i = 4 ∨ i = 5 ∨ i = 6 ∨ i = 7 ∨ i = 8 ∨ i = 9 by omega) with rfl | rfl | rfl | rfl | rfl | rfl | rfl | rfl | rfl | rfl
        · cases ho
          simp only [Act.put, List.setIfInBounds_toArray, List.set_cons_zero, List.set_cons_succ] at hK
          clear hs
          go_simp
          all_goals (try go_wp2_with (first | (go_at_call 17; refine (sameRow_j _ _ hro).mono ?_; rintro e w' ⟨rfl, hb1⟩)))
          all_goals first | with_reducible exact hK.out _ _ rfl (bl_refl _) | with_reducible exact hK.out _ _ rfl hb1 | exact hK.out _ _ rfl (bl_refl _) | exact hK.out _ _ rfl (by assumption) | exact hK.out _ _ (by assumption) (by assumption)
        · cases ho
          simp only [Act.put, List.setIfInBounds_toArray, List.set_cons_zero, List.set_cons_succ] at hK
          clear hs
          go_simp
          all_goals (try go_wp2_with (first | (go_at_call 17; refine (sameRow_j _ _ hro).mono ?_; rintro e w' ⟨rfl, hb1⟩)))
          all_goals first | with_reducible exact hK.out _ _ rfl (bl_refl _) | with_reducible exact hK.out _ _ rfl hb1 | exact hK.out _ _ rfl (bl_refl _) | exact hK.out _ _ rfl (by assumption) | exact hK.out _ _ (by assumption) (by assumption)
        · cases ho
          have e0 : s 0 = _ := hs 0 (by decide) (by kernel_rfl)
          have e1 : s 1 = _ := hs 1 (by decide) (by kernel_rfl)
          simp only [e0, e1] at hK ⊢
          simp only [Act.put, List.setIfInBounds_toArray, List.set_cons_zero, List.set_cons_succ] at hK
          clear hs
          go_simp
          all_goals (try go_wp2_with (first | (go_at_call 17; refine (sameRow_j _ _ hro).mono ?_; rintro e w' ⟨rfl, hb1⟩)))
          all_goals first | with_reducible exact hK.out _ _ rfl (bl_refl _) | with_reducible exact hK.out _ _ rfl hb1 | exact hK.out _ _ rfl (bl_refl _) | exact hK.out _ _ rfl (by assumption) | exact hK.out _ _ (by assumption) (by assumption)
        · cases ho
          have e2 : s 2 = _ := hs 2 (by decide) (by kernel_rfl)
          simp only [e2] at hK ⊢
          simp only [Act.put, List.setIfInBounds_toArray, List.set_cons_zero, List.set_cons_succ] at hK
          clear hs
          refine wp_load_mid (P := Try.prog) 36 _ rfl _ _ rfl _ _ (rng_bel x0 hb) Try.underlying36 rfl (by kernel_rfl) ?_
          exact hK.out _ _ rfl (bl_refl _)
        · cases ho
          simp only [Act.put, List.setIfInBounds_toArray, List.set_cons_zero, List.set_cons_succ] at hK
          clear hs
          go_simp
          all_goals (try go_wp2_with (first | (go_at_call 17; refine (sameRow_j _ _ hro).mono ?_; rintro e w' ⟨rfl, hb1⟩)))
          all_goals first | with_reducible exact hK.out _ _ rfl (bl_refl _) | with_reducible exact hK.out _ _ rfl hb1 | exact hK.out _ _ rfl (bl_refl _) | exact hK.out _ _ rfl (by assumption) | exact hK.out _ _ (by assumption) (by assumption)
        · cases ho
          simp only [Act.put, List.setIfInBounds_toArray, List.set_cons_zero, List.set_cons_succ] at hK
          clear hs
          go_simp
          all_goals (try go_wp2_with (first | (go_at_call 17; refine (sameRow_j _ _ hro).mono ?_; rintro e w' ⟨rfl, hb1⟩)))
          all_goals first | with_reducible exact hK.out _ _ rfl (bl_refl _) | with_reducible exact hK.out _ _ rfl hb1 | exact hK.out _ _ rfl (bl_refl _) | exact hK.out _ _ rfl (by assumption) | exact hK.out _ _ (by assumption) (by assumption)
        · cases ho
          have e4 : s 4 = _ := hs 4 (by decide) (by kernel_rfl)
          have e5 : s 5 = _ := hs 5 (by decide) (by kernel_rfl)
          simp only [e4, e5] at hK ⊢
          simp only [Act.put, List.setIfInBounds_toArray, List.set_cons_zero, List.set_cons_succ] at hK
          clear hs
          go_simp
          all_goals (try go_wp2_with (first | (go_at_call 17; refine (sameRow_j _ _ hro).mono ?_; rintro e w' ⟨rfl, hb1⟩)))
          all_goals first | with_reducible exact hK.out _ _ rfl (bl_refl _) | with_reducible exact hK.out _ _ rfl hb1 | exact hK.out _ _ rfl (bl_refl _) | exact hK.out _ _ rfl (by assumption) | exact hK.out _ _ (by assumption) (by assumption)
        · cases ho
          have e6 : s 6 = _ := hs 6 (by decide) (by kernel_rfl)
          simp only [e6] at hK ⊢
          simp only [Act.put, List.setIfInBounds_toArray, List.set_cons_zero, List.set_cons_succ] at hK
          clear hs
          refine wp_load_mid (P := Try.prog) 36 _ rfl _ _ rfl _ _ (rng_bel x1 hb) Try.underlying36 rfl (by kernel_rfl) ?_
          exact hK.out _ _ rfl (bl_refl _)
        · cases ho
          have e3 : s 3 = _ := hs 3 (by decide) (by kernel_rfl)
          have e7 : s 7 = _ := hs 7 (by decide) (by kernel_rfl)
          simp only [e3, e7] at hK ⊢
          simp only [Act.put, List.setIfInBounds_toArray, List.set_cons_zero, List.set_cons_succ] at hK
          clear hs
          go_simp
          all_goals (try go_wp2_with (first | (go_at_call 17; refine (sameRow_j _ _ hro).mono ?_; rintro e w' ⟨rfl, hb1⟩)))
          all_goals first | with_reducible exact hK.out _ _ rfl (bl_refl _) | with_reducible exact hK.out _ _ rfl hb1 | exact hK.out _ _ rfl (bl_refl _) | exact hK.out _ _ rfl (by assumption) | exact hK.out _ _ (by assumption) (by assumption)
        · cases ho
          have e8 : s 8 = _ := hs 8 (by decide) (by kernel_rfl)
          simp only [e8] at hK ⊢
          simp only [Act.put, List.setIfInBounds_toArray, List.set_cons_zero, List.set_cons_succ] at hK
          clear hs
          go_simp
          all_goals (try go_wp2_with (first | (go_at_call 17; refine (sameRow_j _ _ hro).mono ?_; rintro e w' ⟨rfl, hb1⟩)))
          all_goals first | with_reducible exact hK.out _ _ rfl (bl_refl _) | with_reducible exact hK.out _ _ rfl hb1 | exact hK.out _ _ rfl (bl_refl _) | exact hK.out _ _ rfl (by assumption) | exact hK.out _ _ (by assumption) (by assumption)
      case ht_wm =>
        intro s W hs hb
        have e0 : s 0 = _ := hs 0 (by decide)
        have e1 : s 1 = _ := hs 1 (by decide)
        have e2 : s 2 = _ := hs 2 (by decide)
        have e3 : s 3 = _ := hs 3 (by decide)
        have e4 : s 4 = _ := hs 4 (by decide)
        have e5 : s 5 = _ := hs 5 (by decide)
        have e6 : s 6 = _ := hs 6 (by decide)
        have e7 : s 7 = _ := hs 7 (by decide)
        have e8 : s 8 = _ := hs 8 (by decide)
        have e9 : s 9 = _ := hs 9 (by decide)
        simp only [e0, e1, e2, e3, e4, e5, e6, e7, e8, e9]
        clear hs e0 e1 e2 e3 e4 e5 e6 e7 e8 e9
        go_wp2
        exact ⟨⟨j + 1, by omega, by go_num, bl_trans hB hb⟩, by simp [intOf]; omega⟩
    · have hkn : j = n := by omega
      subst hkn
      go_wp2
      go_ret
      exact ⟨rfl, hB⟩

end Go.Proofs.Ytfjlonnmhioleaa
