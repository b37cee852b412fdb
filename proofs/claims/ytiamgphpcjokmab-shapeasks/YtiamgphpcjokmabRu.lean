/-
  What each function of package poly answers, and what the reference of its chapter answers: one contract a function, for every float: the answer stands in the relation of its formula to what was given; of the memory that was there nothing has turned.
-/
import Derived.Test.YtiamgphpcjokmabVec
import Derived.Test.YtiamgphpcjokmabRt
import Derived.Below
import Derived.WalkKit
import Derived.WalkLawsBesides
import Derived.WalkSpells
import Derived.ProofKit
import Derived.OpenShut
import Derived.Deep.RegionHeld3
namespace Go.Proofs.Ytiamgphpcjokmab
open Go.ChangeShapes Go.WideShapes Go.ChangeAt Go.RowKit
set_option linter.unusedVariables false
set_option linter.unusedSimpArgs false


set_option maxHeartbeats 2000000 in
theorem next7 (xs ys : Nat → Nat) (p q : Nat) (w : World) (g : Gd xs ys 2) (h4 : Bd 40 p) (h5 : Bd 40 q) (hc : cpB (xs 0) (ys 0) (xs 1) (ys 1) = false) : Calls Try.prog 45 #[.agg #[.float .f64 (xs 0), .float .f64 (ys 0)], .agg #[.float .f64 (xs 1), .float .f64 (ys 1)], .agg #[.float .f64 p, .float .f64 q]] w fun e w' => e = .returned (.tuple #[.agg #[.float .f64 (nxX xs ys p q), .float .f64 (nxY xs ys p q)], .float .f64 (ctK xs ys p q)]) ∧ Bel w w' := by
  obtain ⟨g1, g2⟩ := g 0 (by decide)
  obtain ⟨g3, g4⟩ := g 1 (by decide)
  obtain ⟨w1, w2⟩ := cw_bd g
  obtain ⟨t1, t2, t3⟩ := ct_bd g h4 h5 hc
  obtain ⟨_, l2⟩ := sq_low w1 w2 hc
  have s1 : Bd 42 (Dv .sub p (xs 0)) := bd_sub h4 g1 (by decide)
  have s2 : Bd 42 (Dv .sub q (ys 0)) := bd_sub h5 g2 (by decide)
  have d1 := bd_dt s1 s2 w1 w2 (by decide)
  have d2 := bd_dt w1 w2 w1 w2 (by decide)
  unfold cwK at w1 w2 t2 t3 l2 d1 d2
  have q1 := fun t W => run_quo_dv Try.prog t (dtK (Dv .sub p (xs 0)) (Dv .sub q (ys 0)) (Dv .sub (xs 1) (xs 0)) (Dv .sub (ys 1) (ys 0))) (dtK (Dv .sub (xs 1) (xs 0)) (Dv .sub (ys 1) (ys 0)) (Dv .sub (xs 1) (xs 0)) (Dv .sub (ys 1) (ys 0))) W d1.2.1 d2.2.1 l2
  have ef : clK .f64 (Dv .quo (dtK (Dv .sub p (xs 0)) (Dv .sub q (ys 0)) (Dv .sub (xs 1) (xs 0)) (Dv .sub (ys 1) (ys 0))) (dtK (Dv .sub (xs 1) (xs 0)) (Dv .sub (ys 1) (ys 0)) (Dv .sub (xs 1) (xs 0)) (Dv .sub (ys 1) (ys 0)))) 0 4607182418800017408 = ctK xs ys p q := rfl
  have z0_0 : (w.alloc (.cells #[.float .f64 (xs 0), .float .f64 (ys 0)] 27)).cell? ⟨w.heap.size, 0, none⟩ = some (.float .f64 (xs 0)) := by rw [World.cell?_alloc_new]; rfl
  replace z0_0 := up_alloc (o := .cells #[.float .f64 (xs 1), .float .f64 (ys 1)] 27) z0_0
  replace z0_0 := up_alloc (o := .cells #[.float .f64 p, .float .f64 q] 27) z0_0
  replace z0_0 := up_alloc (o := .cells #[.float .f64 0, .float .f64 0] 27) z0_0
  have z0_1 : (w.alloc (.cells #[.float .f64 (xs 0), .float .f64 (ys 0)] 27)).cell? ⟨w.heap.size, 1, none⟩ = some (.float .f64 (ys 0)) := by rw [World.cell?_alloc_new]; rfl
  replace z0_1 := up_alloc (o := .cells #[.float .f64 (xs 1), .float .f64 (ys 1)] 27) z0_1
  replace z0_1 := up_alloc (o := .cells #[.float .f64 p, .float .f64 q] 27) z0_1
  replace z0_1 := up_alloc (o := .cells #[.float .f64 0, .float .f64 0] 27) z0_1
  have z1_0 : ((w.alloc (.cells #[.float .f64 (xs 0), .float .f64 (ys 0)] 27)).alloc (.cells #[.float .f64 (xs 1), .float .f64 (ys 1)] 27)).cell? ⟨w.heap.size + 1, 0, none⟩ = some (.float .f64 (xs 1)) := by rw [← (show (w.alloc (.cells #[.float .f64 (xs 0), .float .f64 (ys 0)] 27)).heap.size = w.heap.size + 1 by simp only [World.size_alloc]), World.cell?_alloc_new]; rfl
  replace z1_0 := up_alloc (o := .cells #[.float .f64 p, .float .f64 q] 27) z1_0
  replace z1_0 := up_alloc (o := .cells #[.float .f64 0, .float .f64 0] 27) z1_0
  have z1_1 : ((w.alloc (.cells #[.float .f64 (xs 0), .float .f64 (ys 0)] 27)).alloc (.cells #[.float .f64 (xs 1), .float .f64 (ys 1)] 27)).cell? ⟨w.heap.size + 1, 1, none⟩ = some (.float .f64 (ys 1)) := by rw [← (show (w.alloc (.cells #[.float .f64 (xs 0), .float .f64 (ys 0)] 27)).heap.size = w.heap.size + 1 by simp only [World.size_alloc]), World.cell?_alloc_new]; rfl
  replace z1_1 := up_alloc (o := .cells #[.float .f64 p, .float .f64 q] 27) z1_1
  replace z1_1 := up_alloc (o := .cells #[.float .f64 0, .float .f64 0] 27) z1_1
  have z2_0 : (((w.alloc (.cells #[.float .f64 (xs 0), .float .f64 (ys 0)] 27)).alloc (.cells #[.float .f64 (xs 1), .float .f64 (ys 1)] 27)).alloc (.cells #[.float .f64 p, .float .f64 q] 27)).cell? ⟨w.heap.size + 1 + 1, 0, none⟩ = some (.float .f64 p) := by rw [← (show ((w.alloc (.cells #[.float .f64 (xs 0), .float .f64 (ys 0)] 27)).alloc (.cells #[.float .f64 (xs 1), .float .f64 (ys 1)] 27)).heap.size = w.heap.size + 1 + 1 by simp only [World.size_alloc]), World.cell?_alloc_new]; rfl
  replace z2_0 := up_alloc (o := .cells #[.float .f64 0, .float .f64 0] 27) z2_0
  have z2_1 : (((w.alloc (.cells #[.float .f64 (xs 0), .float .f64 (ys 0)] 27)).alloc (.cells #[.float .f64 (xs 1), .float .f64 (ys 1)] 27)).alloc (.cells #[.float .f64 p, .float .f64 q] 27)).cell? ⟨w.heap.size + 1 + 1, 1, none⟩ = some (.float .f64 q) := by rw [← (show ((w.alloc (.cells #[.float .f64 (xs 0), .float .f64 (ys 0)] 27)).alloc (.cells #[.float .f64 (xs 1), .float .f64 (ys 1)] 27)).heap.size = w.heap.size + 1 + 1 by simp only [World.size_alloc]), World.cell?_alloc_new]; rfl
  replace z2_1 := up_alloc (o := .cells #[.float .f64 0, .float .f64 0] 27) z2_1
  have z3_0 : ((((w.alloc (.cells #[.float .f64 (xs 0), .float .f64 (ys 0)] 27)).alloc (.cells #[.float .f64 (xs 1), .float .f64 (ys 1)] 27)).alloc (.cells #[.float .f64 p, .float .f64 q] 27)).alloc (.cells #[.float .f64 0, .float .f64 0] 27)).cell? ⟨w.heap.size + 1 + 1 + 1, 0, none⟩ = some (.float .f64 0) := by rw [← (show (((w.alloc (.cells #[.float .f64 (xs 0), .float .f64 (ys 0)] 27)).alloc (.cells #[.float .f64 (xs 1), .float .f64 (ys 1)] 27)).alloc (.cells #[.float .f64 p, .float .f64 q] 27)).heap.size = w.heap.size + 1 + 1 + 1 by simp only [World.size_alloc]), World.cell?_alloc_new]; rfl
  have z3_1 : ((((w.alloc (.cells #[.float .f64 (xs 0), .float .f64 (ys 0)] 27)).alloc (.cells #[.float .f64 (xs 1), .float .f64 (ys 1)] 27)).alloc (.cells #[.float .f64 p, .float .f64 q] 27)).alloc (.cells #[.float .f64 0, .float .f64 0] 27)).cell? ⟨w.heap.size + 1 + 1 + 1, 1, none⟩ = some (.float .f64 0) := by rw [← (show (((w.alloc (.cells #[.float .f64 (xs 0), .float .f64 (ys 0)] 27)).alloc (.cells #[.float .f64 (xs 1), .float .f64 (ys 1)] 27)).alloc (.cells #[.float .f64 p, .float .f64 q] 27)).heap.size = w.heap.size + 1 + 1 + 1 by simp only [World.size_alloc]), World.cell?_alloc_new]; rfl
  have B0 : Bel w ((((w.alloc (.cells #[.float .f64 (xs 0), .float .f64 (ys 0)] 27)).alloc (.cells #[.float .f64 (xs 1), .float .f64 (ys 1)] 27)).alloc (.cells #[.float .f64 p, .float .f64 q] 27)).alloc (.cells #[.float .f64 0, .float .f64 0] 27)) := bl_alloc (bl_alloc (bl_alloc (bl_alloc (bl_refl w) _ _) _ _) _ _) _ _
  go_enter Try.func45, Try.ntmps45
  go_wp2_with (first | (go_at_call 46; refine (minus7 _ g3 g4 g1 g2).mono ?_; rintro e wv ⟨rfl, hbv⟩))
  obtain ⟨r0, r1, Br⟩ := new2 wv 27 (.float .f64 (Dv .sub (xs 1) (xs 0))) (.float .f64 (Dv .sub (ys 1) (ys 0)))
  have Bu := bl_trans hbv Br
  have Bz := B0
  refine wp_region_multiA 11 (fun i v => match i with | 0 => v = .agg #[.float .f64 p, .float .f64 q] | 1 => v = .agg #[.float .f64 (xs 0), .float .f64 (ys 0)] | 2 => v = .agg #[.float .f64 (Dv .sub p (xs 0)), .float .f64 (Dv .sub q (ys 0))] | 3 => v = .agg #[.float .f64 (Dv .sub (xs 1) (xs 0)), .float .f64 (Dv .sub (ys 1) (ys 0))] | 4 => v = .float .f64 (dtK (Dv .sub p (xs 0)) (Dv .sub q (ys 0)) (Dv .sub (xs 1) (xs 0)) (Dv .sub (ys 1) (ys 0))) | 5 => v = .agg #[.float .f64 (Dv .sub (xs 1) (xs 0)), .float .f64 (Dv .sub (ys 1) (ys 0))] | 6 => v = .agg #[.float .f64 (Dv .sub (xs 1) (xs 0)), .float .f64 (Dv .sub (ys 1) (ys 0))] | 7 => v = .float .f64 (dtK (Dv .sub (xs 1) (xs 0)) (Dv .sub (ys 1) (ys 0)) (Dv .sub (xs 1) (xs 0)) (Dv .sub (ys 1) (ys 0))) | 8 => v = .float .f64 (Dv .quo (dtK (Dv .sub p (xs 0)) (Dv .sub q (ys 0)) (Dv .sub (xs 1) (xs 0)) (Dv .sub (ys 1) (ys 0))) (dtK (Dv .sub (xs 1) (xs 0)) (Dv .sub (ys 1) (ys 0)) (Dv .sub (xs 1) (xs 0)) (Dv .sub (ys 1) (ys 0)))) | 9 => v = .float .f64 (ctK xs ys p q) | 10 => v = .float .f64 (ctK xs ys p q) | _ => False) (fun i => match i with  | _ => none) ?A_wf (by kernel_rfl) (by kernel_rfl) ?hA_wf ?ha_wf ?hq_wf [] rfl ?ht_wf
  case hA_wf =>
    intro s
    simp only [putL, dstO, Act.put, List.getElem?_toArray, List.getElem?_cons_zero, List.getElem?_cons_succ, Option.bind_some, List.setIfInBounds_toArray, List.set_cons_zero, List.set_cons_succ, if_true]
    all_goals exact rfl
  case ha_wf =>
    intro i o ob hi ho hal
    rcases (show i = 0 ∨ i = 1 ∨ i = 2 ∨ i = 3 ∨ i = 4 ∨ i = 5 ∨ i = 6 ∨ i = 7 ∨ i = 8 ∨ i = 9 ∨ i = 10 by omega) with rfl | rfl | rfl | rfl | rfl | rfl | rfl | rfl | rfl | rfl | rfl
    · cases hal
    · cases hal
    · cases hal
    · cases hal
    · cases hal
    · cases hal
    · cases hal
    · cases hal
    · cases hal
    · cases hal
    · cases hal
  case hq_wf =>
    intro i o hi ho hal s hs W hb K hK
    have yz0_0 := keep (bl_trans Bu hb) z0_0; have yz0_1 := keep (bl_trans Bu hb) z0_1; have yz1_0 := keep (bl_trans Bu hb) z1_0; have yz1_1 := keep (bl_trans Bu hb) z1_1; have yz2_0 := keep (bl_trans Bu hb) z2_0; have yz2_1 := keep (bl_trans Bu hb) z2_1; have yz3_0 := keep (bl_trans Bu hb) z3_0; have yz3_1 := keep (bl_trans Bu hb) z3_1; have v0 := keep hb r0; have v1 := keep hb r1
    rcases (show i = 0 ∨ i = 1 ∨ i = 2 ∨ i = 3 ∨ i = 4 ∨ i = 5 ∨ i = 6 ∨ i = 7 ∨ i = 8 ∨ i = 9 ∨ i = 10 by omega) with rfl | rfl | rfl | rfl | rfl | rfl | rfl | rfl | rfl | rfl | rfl
    · cases ho
      simp only [Act.put, List.setIfInBounds_toArray, List.set_cons_zero, List.set_cons_succ] at hK
      clear hs
      go_simp
      all_goals (try go_wp2_with (first | (go_at_call 46; refine (minus7 _ (by with_reducible assumption) (by with_reducible assumption) (by with_reducible assumption) (by with_reducible assumption)).mono ?_; rintro e w1 ⟨rfl, hb1⟩) | (go_at_call 47; refine (dot7 _ (by with_reducible assumption) (by with_reducible assumption) (by with_reducible assumption) (by with_reducible assumption) (by decide)).mono ?_; rintro e w1 ⟨rfl, hb1⟩) | (go_at_call 79; refine (rClamp_any _ _ _ _ t3.1 (by rw [okK64]; decide) (by rw [okK64]; decide)).mono ?_; rintro e w1 ⟨rfl, hw⟩; rw [hw]; have hb1 := bl_refl W)))
      all_goals first | exact hK.out _ _ rfl (bl_refl _) | exact hK.out _ _ rfl (by assumption) | exact hK.out _ _ (by assumption) (by assumption)
    · cases ho
      simp only [Act.put, List.setIfInBounds_toArray, List.set_cons_zero, List.set_cons_succ] at hK
      clear hs
      go_simp
      all_goals (try go_wp2_with (first | (go_at_call 46; refine (minus7 _ (by with_reducible assumption) (by with_reducible assumption) (by with_reducible assumption) (by with_reducible assumption)).mono ?_; rintro e w1 ⟨rfl, hb1⟩) | (go_at_call 47; refine (dot7 _ (by with_reducible assumption) (by with_reducible assumption) (by with_reducible assumption) (by with_reducible assumption) (by decide)).mono ?_; rintro e w1 ⟨rfl, hb1⟩) | (go_at_call 79; refine (rClamp_any _ _ _ _ t3.1 (by rw [okK64]; decide) (by rw [okK64]; decide)).mono ?_; rintro e w1 ⟨rfl, hw⟩; rw [hw]; have hb1 := bl_refl W)))
      all_goals first | exact hK.out _ _ rfl (bl_refl _) | exact hK.out _ _ rfl (by assumption) | exact hK.out _ _ (by assumption) (by assumption)
    · cases ho
      have e0 : s 0 = _ := hs 0 (by decide) (by kernel_rfl)
      have e1 : s 1 = _ := hs 1 (by decide) (by kernel_rfl)
      simp only [e0, e1] at hK ⊢
      simp only [Act.put, List.setIfInBounds_toArray, List.set_cons_zero, List.set_cons_succ] at hK
      clear hs
      go_simp
      all_goals (try go_wp2_with (first | (go_at_call 46; refine (minus7 _ (by with_reducible assumption) (by with_reducible assumption) (by with_reducible assumption) (by with_reducible assumption)).mono ?_; rintro e w1 ⟨rfl, hb1⟩) | (go_at_call 47; refine (dot7 _ (by with_reducible assumption) (by with_reducible assumption) (by with_reducible assumption) (by with_reducible assumption) (by decide)).mono ?_; rintro e w1 ⟨rfl, hb1⟩) | (go_at_call 79; refine (rClamp_any _ _ _ _ t3.1 (by rw [okK64]; decide) (by rw [okK64]; decide)).mono ?_; rintro e w1 ⟨rfl, hw⟩; rw [hw]; have hb1 := bl_refl W)))
      all_goals first | exact hK.out _ _ rfl (bl_refl _) | exact hK.out _ _ rfl (by assumption) | exact hK.out _ _ (by assumption) (by assumption)
    · cases ho
      simp only [Act.put, List.setIfInBounds_toArray, List.set_cons_zero, List.set_cons_succ] at hK
      clear hs
      go_simp
      all_goals (try go_wp2_with (first | (go_at_call 46; refine (minus7 _ (by with_reducible assumption) (by with_reducible assumption) (by with_reducible assumption) (by with_reducible assumption)).mono ?_; rintro e w1 ⟨rfl, hb1⟩) | (go_at_call 47; refine (dot7 _ (by with_reducible assumption) (by with_reducible assumption) (by with_reducible assumption) (by with_reducible assumption) (by decide)).mono ?_; rintro e w1 ⟨rfl, hb1⟩) | (go_at_call 79; refine (rClamp_any _ _ _ _ t3.1 (by rw [okK64]; decide) (by rw [okK64]; decide)).mono ?_; rintro e w1 ⟨rfl, hw⟩; rw [hw]; have hb1 := bl_refl W)))
      all_goals first | exact hK.out _ _ rfl (bl_refl _) | exact hK.out _ _ rfl (by assumption) | exact hK.out _ _ (by assumption) (by assumption)
    · cases ho
      have e2 : s 2 = _ := hs 2 (by decide) (by kernel_rfl)
      have e3 : s 3 = _ := hs 3 (by decide) (by kernel_rfl)
      simp only [e2, e3] at hK ⊢
      simp only [Act.put, List.setIfInBounds_toArray, List.set_cons_zero, List.set_cons_succ] at hK
      clear hs
      go_simp
      all_goals (try go_wp2_with (first | (go_at_call 46; refine (minus7 _ (by with_reducible assumption) (by with_reducible assumption) (by with_reducible assumption) (by with_reducible assumption)).mono ?_; rintro e w1 ⟨rfl, hb1⟩) | (go_at_call 47; refine (dot7 _ (by with_reducible assumption) (by with_reducible assumption) (by with_reducible assumption) (by with_reducible assumption) (by decide)).mono ?_; rintro e w1 ⟨rfl, hb1⟩) | (go_at_call 79; refine (rClamp_any _ _ _ _ t3.1 (by rw [okK64]; decide) (by rw [okK64]; decide)).mono ?_; rintro e w1 ⟨rfl, hw⟩; rw [hw]; have hb1 := bl_refl W)))
      all_goals first | exact hK.out _ _ rfl (bl_refl _) | exact hK.out _ _ rfl (by assumption) | exact hK.out _ _ (by assumption) (by assumption)
    · cases ho
      simp only [Act.put, List.setIfInBounds_toArray, List.set_cons_zero, List.set_cons_succ] at hK
      clear hs
      go_simp
      all_goals (try go_wp2_with (first | (go_at_call 46; refine (minus7 _ (by with_reducible assumption) (by with_reducible assumption) (by with_reducible assumption) (by with_reducible assumption)).mono ?_; rintro e w1 ⟨rfl, hb1⟩) | (go_at_call 47; refine (dot7 _ (by with_reducible assumption) (by with_reducible assumption) (by with_reducible assumption) (by with_reducible assumption) (by decide)).mono ?_; rintro e w1 ⟨rfl, hb1⟩) | (go_at_call 79; refine (rClamp_any _ _ _ _ t3.1 (by rw [okK64]; decide) (by rw [okK64]; decide)).mono ?_; rintro e w1 ⟨rfl, hw⟩; rw [hw]; have hb1 := bl_refl W)))
      all_goals first | exact hK.out _ _ rfl (bl_refl _) | exact hK.out _ _ rfl (by assumption) | exact hK.out _ _ (by assumption) (by assumption)
    · cases ho
      simp only [Act.put, List.setIfInBounds_toArray, List.set_cons_zero, List.set_cons_succ] at hK
      clear hs
      go_simp
      all_goals (try go_wp2_with (first | (go_at_call 46; refine (minus7 _ (by with_reducible assumption) (by with_reducible assumption) (by with_reducible assumption) (by with_reducible assumption)).mono ?_; rintro e w1 ⟨rfl, hb1⟩) | (go_at_call 47; refine (dot7 _ (by with_reducible assumption) (by with_reducible assumption) (by with_reducible assumption) (by with_reducible assumption) (by decide)).mono ?_; rintro e w1 ⟨rfl, hb1⟩) | (go_at_call 79; refine (rClamp_any _ _ _ _ t3.1 (by rw [okK64]; decide) (by rw [okK64]; decide)).mono ?_; rintro e w1 ⟨rfl, hw⟩; rw [hw]; have hb1 := bl_refl W)))
      all_goals first | exact hK.out _ _ rfl (bl_refl _) | exact hK.out _ _ rfl (by assumption) | exact hK.out _ _ (by assumption) (by assumption)
    · cases ho
      have e5 : s 5 = _ := hs 5 (by decide) (by kernel_rfl)
      have e6 : s 6 = _ := hs 6 (by decide) (by kernel_rfl)
      simp only [e5, e6] at hK ⊢
      simp only [Act.put, List.setIfInBounds_toArray, List.set_cons_zero, List.set_cons_succ] at hK
      clear hs
      go_simp
      all_goals (try go_wp2_with (first | (go_at_call 46; refine (minus7 _ (by with_reducible assumption) (by with_reducible assumption) (by with_reducible assumption) (by with_reducible assumption)).mono ?_; rintro e w1 ⟨rfl, hb1⟩) | (go_at_call 47; refine (dot7 _ (by with_reducible assumption) (by with_reducible assumption) (by with_reducible assumption) (by with_reducible assumption) (by decide)).mono ?_; rintro e w1 ⟨rfl, hb1⟩) | (go_at_call 79; refine (rClamp_any _ _ _ _ t3.1 (by rw [okK64]; decide) (by rw [okK64]; decide)).mono ?_; rintro e w1 ⟨rfl, hw⟩; rw [hw]; have hb1 := bl_refl W)))
      all_goals first | exact hK.out _ _ rfl (bl_refl _) | exact hK.out _ _ rfl (by assumption) | exact hK.out _ _ (by assumption) (by assumption)
    · cases ho
      have e4 : s 4 = _ := hs 4 (by decide) (by kernel_rfl)
      have e7 : s 7 = _ := hs 7 (by decide) (by kernel_rfl)
      simp only [e4, e7] at hK ⊢
      simp only [Act.put, List.setIfInBounds_toArray, List.set_cons_zero, List.set_cons_succ] at hK
      clear hs
      go_simp
      all_goals (try go_wp2_with (first | (go_at_call 46; refine (minus7 _ (by with_reducible assumption) (by with_reducible assumption) (by with_reducible assumption) (by with_reducible assumption)).mono ?_; rintro e w1 ⟨rfl, hb1⟩) | (go_at_call 47; refine (dot7 _ (by with_reducible assumption) (by with_reducible assumption) (by with_reducible assumption) (by with_reducible assumption) (by decide)).mono ?_; rintro e w1 ⟨rfl, hb1⟩) | (go_at_call 79; refine (rClamp_any _ _ _ _ t3.1 (by rw [okK64]; decide) (by rw [okK64]; decide)).mono ?_; rintro e w1 ⟨rfl, hw⟩; rw [hw]; have hb1 := bl_refl W)))
      all_goals first | exact hK.out _ _ rfl (bl_refl _) | exact hK.out _ _ rfl (by assumption) | exact hK.out _ _ (by assumption) (by assumption)
    · cases ho
      have e8 : s 8 = _ := hs 8 (by decide) (by kernel_rfl)
      simp only [e8] at hK ⊢
      simp only [Act.put, List.setIfInBounds_toArray, List.set_cons_zero, List.set_cons_succ] at hK
      clear hs
      go_simp
      all_goals (try go_wp2_with (first | (go_at_call 46; refine (minus7 _ (by with_reducible assumption) (by with_reducible assumption) (by with_reducible assumption) (by with_reducible assumption)).mono ?_; rintro e w1 ⟨rfl, hb1⟩) | (go_at_call 47; refine (dot7 _ (by with_reducible assumption) (by with_reducible assumption) (by with_reducible assumption) (by with_reducible assumption) (by decide)).mono ?_; rintro e w1 ⟨rfl, hb1⟩) | (go_at_call 79; refine (rClamp_any _ _ _ _ t3.1 (by rw [okK64]; decide) (by rw [okK64]; decide)).mono ?_; rintro e w1 ⟨rfl, hw⟩; rw [hw]; have hb1 := bl_refl W)))
      all_goals first | exact hK.out _ _ rfl (bl_refl _) | exact hK.out _ _ rfl (by assumption) | exact hK.out _ _ (by assumption) (by assumption)
    · cases ho
      have e9 : s 9 = _ := hs 9 (by decide) (by kernel_rfl)
      simp only [e9] at hK ⊢
      simp only [Act.put, List.setIfInBounds_toArray, List.set_cons_zero, List.set_cons_succ] at hK
      clear hs
      go_simp
      all_goals (try go_wp2_with (first | (go_at_call 46; refine (minus7 _ (by with_reducible assumption) (by with_reducible assumption) (by with_reducible assumption) (by with_reducible assumption)).mono ?_; rintro e w1 ⟨rfl, hb1⟩) | (go_at_call 47; refine (dot7 _ (by with_reducible assumption) (by with_reducible assumption) (by with_reducible assumption) (by with_reducible assumption) (by decide)).mono ?_; rintro e w1 ⟨rfl, hb1⟩) | (go_at_call 79; refine (rClamp_any _ _ _ _ t3.1 (by rw [okK64]; decide) (by rw [okK64]; decide)).mono ?_; rintro e w1 ⟨rfl, hw⟩; rw [hw]; have hb1 := bl_refl W)))
      all_goals first | exact hK.out _ _ rfl (bl_refl _) | exact hK.out _ _ rfl (by assumption) | exact hK.out _ _ (by assumption) (by assumption)
  case ht_wf =>
    intro s hs W hb hJ
    have e0 : s 0 = _ := hs 0 (by decide)
    have e1 : s 1 = _ := hs 1 (by decide)
    have e2 : s 2 = _ := hs 2 (by decide)
    have e3 : s 3 = _ := hs 3 (by decide)
    have e4 : s 4 = _ := hs 4 (by decide)
    have e5 : s 5 = _ := hs 5 (by decide)
    have e6 : s 6 = _ := hs 6 (by decide)
    have e7 : s 7 = _ := hs 7 (by decide)
    have e8 : s 8 = _ := hs 8 (by decide)
    have e9 : s 9 = _ := hs 9 (by decide)
    have e10 : s 10 = _ := hs 10 (by decide)
    simp only [e0, e1, e2, e3, e4, e5, e6, e7, e8, e9, e10]
    clear hs
    refine tail_end ?_
    have BT := bl_trans Bu hb
    have yz0_0 := keep BT z0_0
    have yz0_1 := keep BT z0_1
    have yz1_0 := keep BT z1_0
    have yz1_1 := keep BT z1_1
    have yz2_0 := keep BT z2_0
    have yz2_1 := keep BT z2_1
    have yz3_0 := keep BT z3_0
    have yz3_1 := keep BT z3_1
    have v0 := keep hb r0
    have v1 := keep hb r1
    go_wp2_with (first | (go_at_call 52; refine (more7 _ (by with_reducible assumption) (by with_reducible assumption) (by with_reducible assumption) (by with_reducible assumption) (by with_reducible assumption) (by decide)).mono ?_; rintro e w9 ⟨rfl, hb9⟩; have K0 := keep hb9 yz3_0; have K1 := keep hb9 yz3_1; have Z := fun o => ((bl_trans (bl_trans Bz BT) hb9).2 ⟨w.heap.size + 1 + 1 + 1, o, none⟩).trans (fresh_frozen (by show _ ≤ _; omega))))
    obtain ⟨R0, R1⟩ := set2 (p := .float .f64 (moK (xs 0) (ctK xs ys p q) (Dv .sub (xs 1) (xs 0)))) (q := .float .f64 (moK (ys 0) (ctK xs ys p q) (Dv .sub (ys 1) (ys 0)))) K0 K1
    refine bodyPost_ret (v := .tuple #[.agg #[.float .f64 (nxX xs ys p q), .float .f64 (nxY xs ys p q)], .float .f64 (ctK xs ys p q)]) (by simp [R0, R1, results, Try.results45, go_sem] <;> (first | exact ⟨⟨rfl, rfl⟩, rfl⟩ | exact ⟨rfl, rfl, rfl, rfl⟩ | exact ⟨rfl, rfl, rfl⟩ | exact ⟨rfl, rfl⟩ | rfl)) rfl ⟨rfl, ?_⟩
    repeat (first | exact bl_refl _ | assumption | apply bl_drewN | apply bl_drew | apply bl_alloc | refine bl_set ?_ (by simp <;> omega) | refine bl_trans ?_ (by assumption))

end Go.Proofs.Ytiamgphpcjokmab
