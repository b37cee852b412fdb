/-
  What each function of package poly answers, and what the reference of its chapter answers: one contract a function, for every float: the answer stands in the relation of its formula to what was given; of the memory that was there nothing has turned.
-/
import Derived.Test.YtnedolgeghbliaaGreatVec
import Derived.Test.YtnedolgeghbliaaGreatMu
import Derived.Below
import Derived.Laws.StructEq
import Derived.WalkKit
import Derived.WalkLawsBesides
import Derived.WalkSpells
import Derived.ProofKit
import Derived.OpenShut
import Derived.Deep.RegionHeld3
namespace Go.Proofs.YtnedolgeghbliaaGreat
open Go.ChangeShapes Go.WideShapes Go.ChangeAt Go.RowKit
set_option linter.unusedVariables false
set_option linter.unusedSimpArgs false


set_option maxRecDepth 100000 in
set_option maxHeartbeats 4000000 in
theorem kept8 (g c : Nat) (V : Value) (n : Nat) (xs ys : Nat → Nat) (k : Int) (r : Nat) (w : World) (hL : Len2 w g c n xs ys) (h : AnyS w V n xs ys) (h100 : n ≤ 100) : Calls Tryz.prog 10 #[.agg #[.int .u8 k, .float .f64 r, .slice (some ⟨g, 0, none⟩) n c], .agg #[.int .u8 k, .float .f64 r, V]] w fun e w' => e = .returned (.bool true) ∧ Bel w w' := by
  obtain ⟨a, cap, rfl, h2, h3, h4, h5, h6⟩ := h
  obtain ⟨l1, l2, l3, l4, l5, l6, l7⟩ := hL
  have q0 := cmp_eq .f64
  have q1 := fun (x y : Nat) (w : World) => run_equalIn_float Tryz.prog w 22 .f64 x y Tryz.underlying22
  have q3 := fun (d x y : Nat) (w : World) => run_equalIn_fl Tryz.prog w d 22 .f64 x y Tryz.underlying22
  have q4 := fun (x y : Nat) (w : World) => run_equalIn_fl Tryz.prog w 9997 22 .f64 x y Tryz.underlying22
  have e77 : eqK .f64 4635118810238550016 4635118810238550016 = true := by decide +kernel
  have e78 : eqK .f64 4635189178982727680 4635189178982727680 = true := by decide +kernel
  have e00 : eqK .f64 0 0 = true := by decide +kernel
  have c1 : (n : Int) + 2 ≤ (c : Int) := by omega
  have w2 : IntKind.wrap .i64 ((n : Int) + 2) = (n : Int) + 2 := by rw [IntKind.wrap_i64]; omega
  have w1 : IntKind.wrap .i64 ((n : Int) + 1) = (n : Int) + 1 := by rw [IntKind.wrap_i64]; omega
  have i1 : (0 : Int) ≤ (n : Int) + 2 := by omega
  have i2 : ((n : Int) + 2).toNat = n + 2 := by omega
  have i3 : (0 : Int) ≤ (n : Int) + 1 := by omega
  have i4 : ((n : Int) + 1).toNat = n + 1 := by omega
  have i5 : (n : Int) + 1 < (n : Int) + 2 := by omega
  have i6 : (n : Int) < (n : Int) + 2 := by omega
  have z0_0 : (w.alloc (.cells #[.int .u8 k, .float .f64 r, .slice (some ⟨g, 0, none⟩) n c] 25)).cell? ⟨w.heap.size, 0, none⟩ = some (.int .u8 k) := by rw [World.cell?_alloc_new]; rfl
  replace z0_0 := up_alloc (o := .cells #[.int .u8 k, .float .f64 r, .slice a n cap] 25) z0_0
  have z0_1 : (w.alloc (.cells #[.int .u8 k, .float .f64 r, .slice (some ⟨g, 0, none⟩) n c] 25)).cell? ⟨w.heap.size, 1, none⟩ = some (.float .f64 r) := by rw [World.cell?_alloc_new]; rfl
  replace z0_1 := up_alloc (o := .cells #[.int .u8 k, .float .f64 r, .slice a n cap] 25) z0_1
  have z0_2 : (w.alloc (.cells #[.int .u8 k, .float .f64 r, .slice (some ⟨g, 0, none⟩) n c] 25)).cell? ⟨w.heap.size, 2, none⟩ = some (.slice (some ⟨g, 0, none⟩) n c) := by rw [World.cell?_alloc_new]; rfl
  replace z0_2 := up_alloc (o := .cells #[.int .u8 k, .float .f64 r, .slice a n cap] 25) z0_2
  have z1_0 : ((w.alloc (.cells #[.int .u8 k, .float .f64 r, .slice (some ⟨g, 0, none⟩) n c] 25)).alloc (.cells #[.int .u8 k, .float .f64 r, .slice a n cap] 25)).cell? ⟨w.heap.size + 1, 0, none⟩ = some (.int .u8 k) := by rw [← (show (w.alloc (.cells #[.int .u8 k, .float .f64 r, .slice (some ⟨g, 0, none⟩) n c] 25)).heap.size = w.heap.size + 1 by simp only [World.size_alloc]), World.cell?_alloc_new]; rfl
  have z1_1 : ((w.alloc (.cells #[.int .u8 k, .float .f64 r, .slice (some ⟨g, 0, none⟩) n c] 25)).alloc (.cells #[.int .u8 k, .float .f64 r, .slice a n cap] 25)).cell? ⟨w.heap.size + 1, 1, none⟩ = some (.float .f64 r) := by rw [← (show (w.alloc (.cells #[.int .u8 k, .float .f64 r, .slice (some ⟨g, 0, none⟩) n c] 25)).heap.size = w.heap.size + 1 by simp only [World.size_alloc]), World.cell?_alloc_new]; rfl
  have z1_2 : ((w.alloc (.cells #[.int .u8 k, .float .f64 r, .slice (some ⟨g, 0, none⟩) n c] 25)).alloc (.cells #[.int .u8 k, .float .f64 r, .slice a n cap] 25)).cell? ⟨w.heap.size + 1, 2, none⟩ = some (.slice a n cap) := by rw [← (show (w.alloc (.cells #[.int .u8 k, .float .f64 r, .slice (some ⟨g, 0, none⟩) n c] 25)).heap.size = w.heap.size + 1 by simp only [World.size_alloc]), World.cell?_alloc_new]; rfl
  have B0 : Bel w ((w.alloc (.cells #[.int .u8 k, .float .f64 r, .slice (some ⟨g, 0, none⟩) n c] 25)).alloc (.cells #[.int .u8 k, .float .f64 r, .slice a n cap] 25)) := bl_alloc (bl_alloc (bl_refl w) _ _) _ _
  go_enter Tryz.func10, Tryz.ntmps10
  go_wp2
  go_loopw [6] (fun i' wr => ∃ q : Nat, q ≤ n ∧ i' = .int .i64 q ∧ Bel w wr ∧ wr.cell? ⟨w.heap.size, 2, none⟩ = some (.slice (some ⟨g, 0, none⟩) n c) ∧ wr.cell? ⟨w.heap.size + 1, 2, none⟩ = some (.slice a n cap)) (fun i' _ => n - (intOf i').toNat)
  case atStart => exact ⟨0, by omega, rfl, B0, z0_2, z1_2⟩
  case round =>
    clear z0_0 z0_1 z0_2 z1_0 z1_1 z1_2
    obtain ⟨q, hq, rfl, hB, z2, y2⟩ := hrel
    by_cases hlt : q < n
    · rcases h6 with h0 | ⟨h0, b, off, rfl, hs⟩
      · omega
      have k1 : (q : Int) < (n : Int) := by omega
      obtain ⟨x0, x1⟩ := (l3.bel hB) q hlt
      obtain ⟨x2, x3⟩ := (hs.bel hB) q hlt
      simp only [Nat.zero_add] at x0 x1
      have ncap : n ≤ c := by omega
      clear h5 l3 hs
      go_wp2
      refine wp_region_multiA 12 (fun i v => match i with | 0 => v = .pointer (some ⟨w.heap.size, 2, none⟩) | 1 => v = .slice (some ⟨g, 0, none⟩) n c | 2 => v = .int .i64 (q : Int) | 3 => v = .pointer (some ⟨g, q * 2, none⟩) | 4 => v = .agg #[.float .f64 (xs q), .float .f64 (ys q)] | 5 => v = .pointer (some ⟨w.heap.size + 1, 2, none⟩) | 6 => v = .slice (some ⟨b, off, none⟩) n cap | 7 => v = .int .i64 (q : Int) | 8 => v = .pointer (some ⟨b, off + q * 2, none⟩) | 9 => v = .agg #[.float .f64 (xs q), .float .f64 (ys q)] | 10 => v = .bool true | 11 => v = .bool true | _ => False) (fun i => match i with  | _ => none) ?A_wk (by kernel_rfl) (by kernel_rfl) ?hA_wk ?ha_wk ?hq_wk [] rfl ?ht_wk
      case hA_wk =>
        intro s
        simp only [putL, dstO, Act.put, List.getElem?_toArray, List.getElem?_cons_zero, List.getElem?_cons_succ, Option.bind_some, List.setIfInBounds_toArray, List.set_cons_zero, List.set_cons_succ, if_true]
        all_goals exact rfl
      case ha_wk =>
        intro i o ob hi ho hal
        rcases (show i = 0 ∨ i = 1 ∨ i = 2 ∨ i = 3 ∨ i = 4 ∨ i = 5 ∨ i = 6 ∨ i = 7 ∨ i = 8 ∨ i = 9 ∨ i = 10 ∨ i = 11 by omega) with rfl | rfl | rfl | rfl | rfl | rfl | rfl | rfl | rfl | rfl | rfl | rfl
        · cases hal
        · cases hal
        · cases hal
        · cases hal
        · cases hal
        · cases hal
        · cases hal
        · cases hal
        · cases hal
        · cases hal
        · cases hal
        · cases hal
      case hq_wk =>
        intro i o hi ho hal s hs W hb K hK
        have u2 := keep hb z2; have v2 := keep hb y2; have g0 := keep hb x0; have g1 := keep hb x1; have b0 := keep hb x2; have b1 := keep hb x3; have lg := World.block_lt_of_cell? _ _ g0; have lb := World.block_lt_of_cell? _ _ b0; simp only at lg lb
        rcases (show i = 0 ∨ i = 1 ∨ i = 2 ∨ i = 3 ∨ i = 4 ∨ i = 5 ∨ i = 6 ∨ i = 7 ∨ i = 8 ∨ i = 9 ∨ i = 10 ∨ i = 11 by omega) with rfl | rfl | rfl | rfl | rfl | rfl | rfl | rfl | rfl | rfl | rfl | rfl
        · cases ho
          simp only [Act.put, List.setIfInBounds_toArray, List.set_cons_zero, List.set_cons_succ] at hK
          clear hs
          go_simp
          all_goals (try go_wp2_with (first | (go_at_call 31; refine (rSame_any _ _ _ _ _).mono ?_; rintro e w' ⟨rfl, hb1⟩; rw [smK_self, smK_self])))
          all_goals first | exact hK.out _ _ rfl hb1 | exact hK.out _ _ rfl (bl_refl _) | exact hK.out _ _ rfl (by assumption) | exact hK.out _ _ (by assumption) (by assumption)
        · cases ho
          have e0 : s 0 = _ := hs 0 (by decide) (by kernel_rfl)
          simp only [e0] at hK ⊢
          simp only [Act.put, List.setIfInBounds_toArray, List.set_cons_zero, List.set_cons_succ] at hK
          clear hs
          go_simp
          all_goals (try go_wp2_with (first | (go_at_call 31; refine (rSame_any _ _ _ _ _).mono ?_; rintro e w' ⟨rfl, hb1⟩; rw [smK_self, smK_self])))
          all_goals first | exact hK.out _ _ rfl hb1 | exact hK.out _ _ rfl (bl_refl _) | exact hK.out _ _ rfl (by assumption) | exact hK.out _ _ (by assumption) (by assumption)
        · cases ho
          simp only [Act.put, List.setIfInBounds_toArray, List.set_cons_zero, List.set_cons_succ] at hK
          clear hs
          go_simp
          all_goals (try go_wp2_with (first | (go_at_call 31; refine (rSame_any _ _ _ _ _).mono ?_; rintro e w' ⟨rfl, hb1⟩; rw [smK_self, smK_self])))
          all_goals first | exact hK.out _ _ rfl hb1 | exact hK.out _ _ rfl (bl_refl _) | exact hK.out _ _ rfl (by assumption) | exact hK.out _ _ (by assumption) (by assumption)
        · cases ho
          have e1 : s 1 = _ := hs 1 (by decide) (by kernel_rfl)
          have e2 : s 2 = _ := hs 2 (by decide) (by kernel_rfl)
          simp only [e1, e2] at hK ⊢
          simp only [Act.put, List.setIfInBounds_toArray, List.set_cons_zero, List.set_cons_succ] at hK
          clear hs
          go_simp
          all_goals (try go_wp2_with (first | (go_at_call 31; refine (rSame_any _ _ _ _ _).mono ?_; rintro e w' ⟨rfl, hb1⟩; rw [smK_self, smK_self])))
          all_goals first | exact hK.out _ _ rfl hb1 | exact hK.out _ _ rfl (bl_refl _) | exact hK.out _ _ rfl (by assumption) | exact hK.out _ _ (by assumption) (by assumption)
        · cases ho
          have e3 : s 3 = _ := hs 3 (by decide) (by kernel_rfl)
          simp only [e3] at hK ⊢
          simp only [Act.put, List.setIfInBounds_toArray, List.set_cons_zero, List.set_cons_succ] at hK
          clear hs
          go_simp
          all_goals (try go_wp2_with (first | (go_at_call 31; refine (rSame_any _ _ _ _ _).mono ?_; rintro e w' ⟨rfl, hb1⟩; rw [smK_self, smK_self])))
          all_goals first | exact hK.out _ _ rfl hb1 | exact hK.out _ _ rfl (bl_refl _) | exact hK.out _ _ rfl (by assumption) | exact hK.out _ _ (by assumption) (by assumption)
        · cases ho
          simp only [Act.put, List.setIfInBounds_toArray, List.set_cons_zero, List.set_cons_succ] at hK
          clear hs
          go_simp
          all_goals (try go_wp2_with (first | (go_at_call 31; refine (rSame_any _ _ _ _ _).mono ?_; rintro e w' ⟨rfl, hb1⟩; rw [smK_self, smK_self])))
          all_goals first | exact hK.out _ _ rfl hb1 | exact hK.out _ _ rfl (bl_refl _) | exact hK.out _ _ rfl (by assumption) | exact hK.out _ _ (by assumption) (by assumption)
        · cases ho
          have e5 : s 5 = _ := hs 5 (by decide) (by kernel_rfl)
          simp only [e5] at hK ⊢
          simp only [Act.put, List.setIfInBounds_toArray, List.set_cons_zero, List.set_cons_succ] at hK
          clear hs
          go_simp
          all_goals (try go_wp2_with (first | (go_at_call 31; refine (rSame_any _ _ _ _ _).mono ?_; rintro e w' ⟨rfl, hb1⟩; rw [smK_self, smK_self])))
          all_goals first | exact hK.out _ _ rfl hb1 | exact hK.out _ _ rfl (bl_refl _) | exact hK.out _ _ rfl (by assumption) | exact hK.out _ _ (by assumption) (by assumption)
        · cases ho
          simp only [Act.put, List.setIfInBounds_toArray, List.set_cons_zero, List.set_cons_succ] at hK
          clear hs
          go_simp
          all_goals (try go_wp2_with (first | (go_at_call 31; refine (rSame_any _ _ _ _ _).mono ?_; rintro e w' ⟨rfl, hb1⟩; rw [smK_self, smK_self])))
          all_goals first | exact hK.out _ _ rfl hb1 | exact hK.out _ _ rfl (bl_refl _) | exact hK.out _ _ rfl (by assumption) | exact hK.out _ _ (by assumption) (by assumption)
        · cases ho
          have e6 : s 6 = _ := hs 6 (by decide) (by kernel_rfl)
          have e7 : s 7 = _ := hs 7 (by decide) (by kernel_rfl)
          simp only [e6, e7] at hK ⊢
          simp only [Act.put, List.setIfInBounds_toArray, List.set_cons_zero, List.set_cons_succ] at hK
          clear hs
          go_simp
          all_goals (try go_wp2_with (first | (go_at_call 31; refine (rSame_any _ _ _ _ _).mono ?_; rintro e w' ⟨rfl, hb1⟩; rw [smK_self, smK_self])))
          all_goals first | exact hK.out _ _ rfl hb1 | exact hK.out _ _ rfl (bl_refl _) | exact hK.out _ _ rfl (by assumption) | exact hK.out _ _ (by assumption) (by assumption)
        · cases ho
          have e8 : s 8 = _ := hs 8 (by decide) (by kernel_rfl)
          simp only [e8] at hK ⊢
          simp only [Act.put, List.setIfInBounds_toArray, List.set_cons_zero, List.set_cons_succ] at hK
          clear hs
          go_simp
          all_goals (try go_wp2_with (first | (go_at_call 31; refine (rSame_any _ _ _ _ _).mono ?_; rintro e w' ⟨rfl, hb1⟩; rw [smK_self, smK_self])))
          all_goals first | exact hK.out _ _ rfl hb1 | exact hK.out _ _ rfl (bl_refl _) | exact hK.out _ _ rfl (by assumption) | exact hK.out _ _ (by assumption) (by assumption)
        · cases ho
          have e4 : s 4 = _ := hs 4 (by decide) (by kernel_rfl)
          have e9 : s 9 = _ := hs 9 (by decide) (by kernel_rfl)
          simp only [e4, e9] at hK ⊢
          simp only [Act.put, List.setIfInBounds_toArray, List.set_cons_zero, List.set_cons_succ] at hK
          clear hs
          go_simp
          all_goals (try go_wp2_with (first | (go_at_call 31; refine (rSame_any _ _ _ _ _).mono ?_; rintro e w' ⟨rfl, hb1⟩; rw [smK_self, smK_self])))
          all_goals first | exact hK.out _ _ rfl hb1 | exact hK.out _ _ rfl (bl_refl _) | exact hK.out _ _ rfl (by assumption) | exact hK.out _ _ (by assumption) (by assumption)
        · cases ho
          have e10 : s 10 = _ := hs 10 (by decide) (by kernel_rfl)
          simp only [e10] at hK ⊢
          simp only [Act.put, List.setIfInBounds_toArray, List.set_cons_zero, List.set_cons_succ] at hK
          clear hs
          go_simp
          all_goals (try go_wp2_with (first | (go_at_call 31; refine (rSame_any _ _ _ _ _).mono ?_; rintro e w' ⟨rfl, hb1⟩; rw [smK_self, smK_self])))
          all_goals first | exact hK.out _ _ rfl hb1 | exact hK.out _ _ rfl (bl_refl _) | exact hK.out _ _ rfl (by assumption) | exact hK.out _ _ (by assumption) (by assumption)
      case ht_wk =>
        intro s hs W hb hJ
        have e0 : s 0 = _ := hs 0 (by decide)
        have e1 : s 1 = _ := hs 1 (by decide)
        have e2 : s 2 = _ := hs 2 (by decide)
        have e3 : s 3 = _ := hs 3 (by decide)
        have e4 : s 4 = _ := hs 4 (by decide)
        have e5 : s 5 = _ := hs 5 (by decide)
        have e6 : s 6 = _ := hs 6 (by decide)
        have e7 : s 7 = _ := hs 7 (by decide)
        have e8 : s 8 = _ := hs 8 (by decide)
        have e9 : s 9 = _ := hs 9 (by decide)
        have e10 : s 10 = _ := hs 10 (by decide)
        have e11 : s 11 = _ := hs 11 (by decide)
        simp only [e0, e1, e2, e3, e4, e5, e6, e7, e8, e9, e10, e11]
        clear hs
        refine tail_end ?_
        go_wp2
        exact ⟨⟨q + 1, by omega, by go_num, bl_trans hB hb, keep hb z2, keep hb y2⟩, by simp [intOf]; omega⟩
    · have hkn : q = n := by omega
      subst hkn
      have p4 := keep hB l4
      have p5 := keep hB l5
      have p6 := keep hB l6
      have p7 := keep hB l7
      have lg := World.block_lt_of_cell? _ _ p4
      simp only at lg
      clear h6 h5 l3
      go_wp2
      go_ret
      exact ⟨rfl, hB⟩

end Go.Proofs.YtnedolgeghbliaaGreat
