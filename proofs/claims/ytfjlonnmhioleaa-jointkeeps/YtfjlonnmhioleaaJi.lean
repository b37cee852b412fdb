/-
  What each function of package poly answers, and what the reference of its chapter answers: one contract a function, for every float: the answer stands in the relation of its formula to what was given; of the memory that was there nothing has turned.
-/
import Derived.Test.YtfjlonnmhioleaaVec
import Derived.Test.YtfjlonnmhioleaaJf
import Derived.Below
import Derived.WalkKit
import Derived.WalkLawsBesides
import Derived.WalkSpells
import Derived.ProofKit
import Derived.OpenShut
import Derived.Deep.RegionHeld3
namespace Go.Proofs.Ytfjlonnmhioleaa
open Go.ChangeShapes Go.WideShapes Go.ChangeAt Go.RowKit
set_option linter.unusedVariables false
set_option linter.unusedSimpArgs false


theorem sameVec_j (x y : Nat) (w : World) (ox : okK .f64 x) (oy : okK .f64 y) : Calls Try.prog 23 #[.agg #[.float .f64 x, .float .f64 y], .agg #[.float .f64 x, .float .f64 y]] w fun e w' => e = .returned (.bool true) ∧ Bel w w' := by
  have s1 := smK_self .f64 x
  have s2 := smK_self .f64 y
  go_enter Try.func23, Try.ntmps23
  go_wp2_with (first | (have zn := m1; clear zn; go_at_call 28; refine (rSame_any _ _ _ oy oy).mono ?_; rintro e w2 ⟨rfl, hw⟩; rw [hw, s2]) | (go_at_call 28; refine (rSame_any _ _ _ ox ox).mono ?_; rintro e w1 ⟨rfl, hw⟩; rw [hw, s1]; have m1 := True.intro))
  go_ret
  refine ⟨rfl, ?_⟩
  repeat (first | exact bl_refl _ | assumption | apply bl_drewN | apply bl_drew | apply bl_alloc | refine bl_set ?_ (by simp <;> omega) | refine bl_trans ?_ (by assumption))
def Slj (w : World) (b n : Nat) (xs ys : Nat → Nat) : Prop := ∀ i, i < n → w.cell? ⟨b, i * 2, none⟩ = some (.float .f64 (xs i)) ∧ w.cell? ⟨b, i * 2 + 1, none⟩ = some (.float .f64 (ys i))
theorem Slj.bel {w w' : World} {b n : Nat} {xs ys : Nat → Nat} (h : Slj w b n xs ys) (g : Bel w w') : Slj w' b n xs ys := fun i hi => ⟨keep g (h i hi).1, keep g (h i hi).2⟩
theorem Slj.lt {w : World} {b n : Nat} {xs ys : Nat → Nat} (h : Slj w b n xs ys) (hn : 0 < n) : b < w.heap.size := World.block_lt_of_cell? w _ (h 0 hn).1

set_option maxHeartbeats 1000000 in
theorem sameVecs_j (g c b d n : Nat) (xs ys : Nat → Nat) (w : World) (hA : Slj w g n xs ys) (hs : Slj w b n xs ys) (o : ∀ i, i < n → okK .f64 (xs i) ∧ okK .f64 (ys i)) (hn : n ≤ 1000) (h1 : n ≤ c) (h2 : n ≤ d) (hp : 0 < n) : Calls Try.prog 16 #[.slice (some ⟨g, 0, none⟩) n c, .slice (some ⟨b, 0, none⟩) n d] w fun e w' => e = .returned (.bool true) ∧ Bel w w' := by
  go_enter Try.func16, Try.ntmps16
  go_wp2
  go_loopw [5] (fun i' wr => ∃ j : Nat, j ≤ n ∧ i' = .int .i64 j ∧ Bel w wr) (fun i' _ => n - (intOf i').toNat)
  case atStart => exact ⟨0, by omega, rfl, bl_refl _⟩
  case round =>
    obtain ⟨j, hj, rfl, hB⟩ := hrel
    by_cases hlt : j < n
    · have k1 : (j : Int) < (n : Int) := by omega
      obtain ⟨x0, x1⟩ := (hA.bel hB) j hlt
      obtain ⟨x2, x3⟩ := (hs.bel hB) j hlt
      obtain ⟨ox, oy⟩ := o j hlt
      have hb3 := Nat.lt_of_lt_of_le (hA.lt hp) hB.size
      have hb4 := Nat.lt_of_lt_of_le (hs.lt hp) hB.size
      clear hA hs o
      go_wp2
      refine wp_region_multiA 10 (fun i v => match i with | 0 => v = .slice (some ⟨g, 0, none⟩) n c | 1 => v = .int .i64 (j : Int) | 2 => v = .pointer (some ⟨g, (j * 2), none⟩) | 3 => v = .agg #[.float .f64 (xs j), .float .f64 (ys j)] | 4 => v = .slice (some ⟨b, 0, none⟩) n d | 5 => v = .int .i64 (j : Int) | 6 => v = .pointer (some ⟨b, (j * 2), none⟩) | 7 => v = .agg #[.float .f64 (xs j), .float .f64 (ys j)] | 8 => v = .bool true | 9 => v = .bool false | _ => False) (fun i => match i with  | _ => none) ?A_wq (by kernel_rfl) (by kernel_rfl) ?hA_wq ?ha_wq ?hq_wq [] rfl ?ht_wq
      case hA_wq =>
        intro s
        simp only [putL, dstO, Act.put, List.getElem?_toArray, List.getElem?_cons_zero, List.getElem?_cons_succ, Option.bind_some, List.setIfInBounds_toArray, List.set_cons_zero, List.set_cons_succ, if_true]
        all_goals exact rfl
      case ha_wq =>
        intro i o ob hi ho hal
        rcases (show i = 0 ∨ i = 1 ∨ i = 2 ∨ i = 3 ∨ i = 4 ∨ i = 5 ∨ i = 6 ∨ i = 7 ∨ i = 8 ∨ i = 9 by omega) with rfl | rfl | rfl | rfl | rfl | rfl | rfl | rfl | rfl | rfl
        · cases hal
        · cases hal
        · cases hal
        · cases hal
        · cases hal
        · cases hal
        · cases hal
        · cases hal
        · cases hal
        · cases hal
      case hq_wq =>
        intro i o hi ho hal s hs W hb K hK
        have y0 := keep hb x0; have y1 := keep hb x1; have y2 := keep hb x2; have y3 := keep hb x3; have hb5 := Nat.lt_of_lt_of_le hb3 hb.size; have hb6 := Nat.lt_of_lt_of_le hb4 hb.size
        rcases (show i = 0 ∨ i = 1 ∨ i = 2 ∨ i = 3 ∨ i = 4 ∨ i = 5 ∨ i = 6 ∨ i = 7 ∨ i = 8 ∨ i = 9 by omega) with rfl | rfl | rfl | rfl | rfl | rfl | rfl | rfl | rfl | rfl
        · cases ho
          simp only [Act.put, List.setIfInBounds_toArray, List.set_cons_zero, List.set_cons_succ] at hK
          clear hs
          go_simp
          all_goals (try go_wp2_with (first | (go_at_call 23; refine (sameVec_j _ _ _ ox oy).mono ?_; rintro e w1 ⟨rfl, hb1⟩)))
          all_goals first | exact hK.out _ _ rfl (bl_refl _) | exact hK.out _ _ rfl (by assumption) | exact hK.out _ _ (by assumption) (by assumption)
        · cases ho
          simp only [Act.put, List.setIfInBounds_toArray, List.set_cons_zero, List.set_cons_succ] at hK
          clear hs
          go_simp
          all_goals (try go_wp2_with (first | (go_at_call 23; refine (sameVec_j _ _ _ ox oy).mono ?_; rintro e w1 ⟨rfl, hb1⟩)))
          all_goals first | exact hK.out _ _ rfl (bl_refl _) | exact hK.out _ _ rfl (by assumption) | exact hK.out _ _ (by assumption) (by assumption)
        · cases ho
          have e0 : s 0 = _ := hs 0 (by decide) (by kernel_rfl)
          have e1 : s 1 = _ := hs 1 (by decide) (by kernel_rfl)
          simp only [e0, e1] at hK ⊢
          simp only [Act.put, List.setIfInBounds_toArray, List.set_cons_zero, List.set_cons_succ] at hK
          clear hs
          go_simp
          all_goals (try go_wp2_with (first | (go_at_call 23; refine (sameVec_j _ _ _ ox oy).mono ?_; rintro e w1 ⟨rfl, hb1⟩)))
          all_goals first | exact hK.out _ _ rfl (bl_refl _) | exact hK.out _ _ rfl (by assumption) | exact hK.out _ _ (by assumption) (by assumption)
        · cases ho
          have e2 : s 2 = _ := hs 2 (by decide) (by kernel_rfl)
          simp only [e2] at hK ⊢
          simp only [Act.put, List.setIfInBounds_toArray, List.set_cons_zero, List.set_cons_succ] at hK
          clear hs
          go_simp
          all_goals (try go_wp2_with (first | (go_at_call 23; refine (sameVec_j _ _ _ ox oy).mono ?_; rintro e w1 ⟨rfl, hb1⟩)))
          all_goals first | exact hK.out _ _ rfl (bl_refl _) | exact hK.out _ _ rfl (by assumption) | exact hK.out _ _ (by assumption) (by assumption)
        · cases ho
          simp only [Act.put, List.setIfInBounds_toArray, List.set_cons_zero, List.set_cons_succ] at hK
          clear hs
          go_simp
          all_goals (try go_wp2_with (first | (go_at_call 23; refine (sameVec_j _ _ _ ox oy).mono ?_; rintro e w1 ⟨rfl, hb1⟩)))
          all_goals first | exact hK.out _ _ rfl (bl_refl _) | exact hK.out _ _ rfl (by assumption) | exact hK.out _ _ (by assumption) (by assumption)
        · cases ho
          simp only [Act.put, List.setIfInBounds_toArray, List.set_cons_zero, List.set_cons_succ] at hK
          clear hs
          go_simp
          all_goals (try go_wp2_with (first | (go_at_call 23; refine (sameVec_j _ _ _ ox oy).mono ?_; rintro e w1 ⟨rfl, hb1⟩)))
          all_goals first | exact hK.out _ _ rfl (bl_refl _) | exact hK.out _ _ rfl (by assumption) | exact hK.out _ _ (by assumption) (by assumption)
        · cases ho
          have e4 : s 4 = _ := hs 4 (by decide) (by kernel_rfl)
          have e5 : s 5 = _ := hs 5 (by decide) (by kernel_rfl)
          simp only [e4, e5] at hK ⊢
          simp only [Act.put, List.setIfInBounds_toArray, List.set_cons_zero, List.set_cons_succ] at hK
          clear hs
          go_simp
          all_goals (try go_wp2_with (first | (go_at_call 23; refine (sameVec_j _ _ _ ox oy).mono ?_; rintro e w1 ⟨rfl, hb1⟩)))
          all_goals first | exact hK.out _ _ rfl (bl_refl _) | exact hK.out _ _ rfl (by assumption) | exact hK.out _ _ (by assumption) (by assumption)
        · cases ho
          have e6 : s 6 = _ := hs 6 (by decide) (by kernel_rfl)
          simp only [e6] at hK ⊢
          simp only [Act.put, List.setIfInBounds_toArray, List.set_cons_zero, List.set_cons_succ] at hK
          clear hs
          go_simp
          all_goals (try go_wp2_with (first | (go_at_call 23; refine (sameVec_j _ _ _ ox oy).mono ?_; rintro e w1 ⟨rfl, hb1⟩)))
          all_goals first | exact hK.out _ _ rfl (bl_refl _) | exact hK.out _ _ rfl (by assumption) | exact hK.out _ _ (by assumption) (by assumption)
        · cases ho
          have e3 : s 3 = _ := hs 3 (by decide) (by kernel_rfl)
          have e7 : s 7 = _ := hs 7 (by decide) (by kernel_rfl)
          simp only [e3, e7] at hK ⊢
          simp only [Act.put, List.setIfInBounds_toArray, List.set_cons_zero, List.set_cons_succ] at hK
          clear hs
          go_simp
          all_goals (try go_wp2_with (first | (go_at_call 23; refine (sameVec_j _ _ _ ox oy).mono ?_; rintro e w1 ⟨rfl, hb1⟩)))
          all_goals first | exact hK.out _ _ rfl (bl_refl _) | exact hK.out _ _ rfl (by assumption) | exact hK.out _ _ (by assumption) (by assumption)
        · cases ho
          have e8 : s 8 = _ := hs 8 (by decide) (by kernel_rfl)
          simp only [e8] at hK ⊢
          simp only [Act.put, List.setIfInBounds_toArray, List.set_cons_zero, List.set_cons_succ] at hK
          clear hs
          go_simp
          all_goals (try go_wp2_with (first | (go_at_call 23; refine (sameVec_j _ _ _ ox oy).mono ?_; rintro e w1 ⟨rfl, hb1⟩)))
          all_goals first | exact hK.out _ _ rfl (bl_refl _) | exact hK.out _ _ rfl (by assumption) | exact hK.out _ _ (by assumption) (by assumption)
      case ht_wq =>
        intro s hs W hb hJ
        have e0 : s 0 = _ := hs 0 (by decide)
        have e1 : s 1 = _ := hs 1 (by decide)
        have e2 : s 2 = _ := hs 2 (by decide)
        have e3 : s 3 = _ := hs 3 (by decide)
        have e4 : s 4 = _ := hs 4 (by decide)
        have e5 : s 5 = _ := hs 5 (by decide)
        have e6 : s 6 = _ := hs 6 (by decide)
        have e7 : s 7 = _ := hs 7 (by decide)
        have e8 : s 8 = _ := hs 8 (by decide)
        have e9 : s 9 = _ := hs 9 (by decide)
        simp only [e0, e1, e2, e3, e4, e5, e6, e7, e8, e9]
        clear hs
        refine tail_end ?_
        go_wp2
        exact ⟨⟨j + 1, by omega, by go_num, bl_trans hB hb⟩, by simp [intOf]; omega⟩
    · have hkn : j = n := by omega
      subst hkn
      go_wp2
      go_ret
      exact ⟨rfl, hB⟩

end Go.Proofs.Ytfjlonnmhioleaa
