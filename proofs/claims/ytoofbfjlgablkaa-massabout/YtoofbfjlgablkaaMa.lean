/-
  What each function of package poly answers, and what the reference of its chapter answers: one contract a function, for every float: the answer stands in the relation of its formula to what was given; of the memory that was there nothing has turned.
-/
import Derived.Test.YtoofbfjlgablkaaVec
import Derived.Test.YtoofbfjlgablkaaSb
import Derived.Test.YtoofbfjlgablkaaMat
import Derived.Below
import Derived.WalkKit
import Derived.WalkLawsBesides
import Derived.WalkSpells
import Derived.ProofKit
import Derived.OpenShut
import Derived.Deep.RegionHeld3
namespace Go.Proofs.Ytoofbfjlgablkaa
open Go.ChangeShapes Go.WideShapes Go.ChangeAt Go.RowKit
set_option linter.unusedVariables false
set_option linter.unusedSimpArgs false


theorem nb_any (a : Nat) (w : World) : Calls Try.prog 35 #[.float .f64 a] w fun e w' => e = .returned (.bool (endB a)) ∧ Bel w w' := by
  have c1 := cmp_ge .f64
  unfold endB
  cases h : leK .f64 0 a
  all_goals
    go_enter Try.func35, Try.ntmps35
    go_wp2_with (first | (go_at_call 49; refine (finite_6 _ _).mono ?_; rintro e w' ⟨n, rfl, rfl⟩))
    go_ret
    exact ⟨rfl, by first | exact bl_refl _ | exact bl_drewN (bl_refl _) _⟩
theorem rEnd_any (a : Nat) (w : World) : Calls Try.prog 45 #[.float .f64 a] w fun e w' => e = .returned (.bool (endB a)) ∧ Bel w w' := by
  have c1 := cmp_ge1 .f64
  have c2 := cmp_eq .f64
  have q := run_sub Try.prog
  have t := self_sub .f64 a
  unfold endB
  cases h : leK .f64 0 a
  all_goals
    go_enter Try.func45, Try.ntmps45
    go_wp2
    go_ret
    exact ⟨by first | rfl | simp_all, by first | exact bl_refl _ | exact bl_drewN (bl_refl _) _⟩
theorem mChk_any (ma ia cx cy : Nat) (w : World) : Calls Try.prog 10 #[.agg #[.float .f64 ma, .float .f64 ia, .float .f64 cx, .float .f64 cy]] w fun e w' => e = .returned (.int .i64 (mE ma ia cx cy)) ∧ Bel w w' := by
  have g : mB ma ia cx cy = (endB ma && endB ia && (withinK .f64 cx 4787326403894837248 && withinK .f64 cy 4787326403894837248)) := rfl
  rcases (show (endB ma = false) ∨ (endB ma = true ∧ endB ia = false) ∨ (endB ma = true ∧ endB ia = true ∧ (withinK .f64 cx 4787326403894837248 && withinK .f64 cy 4787326403894837248) = false) ∨ (endB ma = true ∧ endB ia = true ∧ (withinK .f64 cx 4787326403894837248 && withinK .f64 cy 4787326403894837248) = true) by cases endB ma <;> cases endB ia <;> cases (withinK .f64 cx 4787326403894837248 && withinK .f64 cy 4787326403894837248) <;> simp) with h1 | ⟨h1, h2⟩ | ⟨h1, h2, h3⟩ | ⟨h1, h2, h3⟩
  · have e := mE_no (m := ma) (i := ia) (x := cx) (y := cy) (by rw [g, h1]; rfl)
    go_enter Try.func10, Try.ntmps10
    go_wp2_with (first | (go_at_call 35; refine (nb_any _ _).mono ?_; rintro e w' ⟨rfl, hb⟩; (first | rw [h1] | rw [h2]); (first | have B := bl_trans B hb | have B := bl_trans (by repeat (first | exact B | apply bl_drewN)) hb | have B := bl_trans (by repeat (first | exact B | apply bl_drewN | apply bl_drew | apply bl_alloc | refine bl_set ?_ (by simp <;> omega))) hb | have B := hb); (try clear hc hf hz); obtain ⟨hc, hf⟩ := bcell B; have hz := B.size; (try simp at hz)))
    go_ret
    refine ⟨by rw [e]; rfl, ?_⟩
    repeat (first | exact bl_refl _ | assumption | apply bl_drewN | apply bl_drew | apply bl_alloc | refine bl_set ?_ (by simp <;> omega) | refine bl_trans ?_ (by assumption))
  · have e := mE_no (m := ma) (i := ia) (x := cx) (y := cy) (by rw [g, h1, h2]; rfl)
    go_enter Try.func10, Try.ntmps10
    go_wp2_with (first | (go_at_call 35; refine (nb_any _ _).mono ?_; rintro e w' ⟨rfl, hb⟩; (first | rw [h1] | rw [h2]); (first | have B := bl_trans B hb | have B := bl_trans (by repeat (first | exact B | apply bl_drewN)) hb | have B := bl_trans (by repeat (first | exact B | apply bl_drewN | apply bl_drew | apply bl_alloc | refine bl_set ?_ (by simp <;> omega))) hb | have B := hb); (try clear hc hf hz); obtain ⟨hc, hf⟩ := bcell B; have hz := B.size; (try simp at hz)))
    go_ret
    refine ⟨by rw [e]; rfl, ?_⟩
    repeat (first | exact bl_refl _ | assumption | apply bl_drewN | apply bl_drew | apply bl_alloc | refine bl_set ?_ (by simp <;> omega) | refine bl_trans ?_ (by assumption))
  · have e := mE_no (m := ma) (i := ia) (x := cx) (y := cy) (by rw [g, h1, h2, h3]; rfl)
    go_enter Try.func10, Try.ntmps10
    go_wp2_with (first | (go_at_call 35; refine (nb_any _ _).mono ?_; rintro e w' ⟨rfl, hb⟩; (first | rw [h1] | rw [h2]); (first | have B := bl_trans B hb | have B := bl_trans (by repeat (first | exact B | apply bl_drewN)) hb | have B := bl_trans (by repeat (first | exact B | apply bl_drewN | apply bl_drew | apply bl_alloc | refine bl_set ?_ (by simp <;> omega))) hb | have B := hb); (try clear hc hf hz); obtain ⟨hc, hf⟩ := bcell B; have hz := B.size; (try simp at hz)) | (go_at_call 12; refine (vWithin_any _ _ _ _).mono ?_; rintro e w' ⟨rfl, hb⟩; rw [h3]; clear hc hf hz; have B := bl_trans B hb; obtain ⟨hc, hf⟩ := bcell B; have hz := B.size; (try simp at hz)))
    go_ret
    refine ⟨by rw [e]; rfl, ?_⟩
    repeat (first | exact bl_refl _ | assumption | apply bl_drewN | apply bl_drew | apply bl_alloc | refine bl_set ?_ (by simp <;> omega) | refine bl_trans ?_ (by assumption))
  · have e := mE_yes (m := ma) (i := ia) (x := cx) (y := cy) (by rw [g, h1, h2, h3]; rfl)
    go_enter Try.func10, Try.ntmps10
    go_wp2_with (first | (go_at_call 35; refine (nb_any _ _).mono ?_; rintro e w' ⟨rfl, hb⟩; (first | rw [h1] | rw [h2]); (first | have B := bl_trans B hb | have B := bl_trans (by repeat (first | exact B | apply bl_drewN)) hb | have B := bl_trans (by repeat (first | exact B | apply bl_drewN | apply bl_drew | apply bl_alloc | refine bl_set ?_ (by simp <;> omega))) hb | have B := hb); (try clear hc hf hz); obtain ⟨hc, hf⟩ := bcell B; have hz := B.size; (try simp at hz)) | (go_at_call 12; refine (vWithin_any _ _ _ _).mono ?_; rintro e w' ⟨rfl, hb⟩; rw [h3]; clear hc hf hz; have B := bl_trans B hb; obtain ⟨hc, hf⟩ := bcell B; have hz := B.size; (try simp at hz)))
    go_ret
    refine ⟨by rw [e]; rfl, ?_⟩
    repeat (first | exact bl_refl _ | assumption | apply bl_drewN | apply bl_drew | apply bl_alloc | refine bl_set ?_ (by simp <;> omega) | refine bl_trans ?_ (by assumption))
set_option maxRecDepth 100000 in
set_option maxHeartbeats 1000000 in
theorem about_any (ma ia cx cy : Nat) (px py : Nat) (w : World) : Calls Try.prog 24 #[.agg #[.float .f64 ma, .float .f64 ia, .float .f64 cx, .float .f64 cy], .agg #[.float .f64 px, .float .f64 py]] w fun e w' => ∃ r, AboutR ma ia cx cy px py r ∧ e = .returned (.float .f64 r) ∧ Bel w w' := by
  have z0_0 : (w.alloc (.cells #[.float .f64 ma, .float .f64 ia, .float .f64 cx, .float .f64 cy] 28)).cell? ⟨w.heap.size, 0, none⟩ = some (.float .f64 ma) := by rw [World.cell?_alloc_new]; rfl
  replace z0_0 := up_alloc (o := .cells #[.float .f64 px, .float .f64 py] 26) z0_0
  have z0_1 : (w.alloc (.cells #[.float .f64 ma, .float .f64 ia, .float .f64 cx, .float .f64 cy] 28)).cell? ⟨w.heap.size, 1, none⟩ = some (.float .f64 ia) := by rw [World.cell?_alloc_new]; rfl
  replace z0_1 := up_alloc (o := .cells #[.float .f64 px, .float .f64 py] 26) z0_1
  have z0_2 : (w.alloc (.cells #[.float .f64 ma, .float .f64 ia, .float .f64 cx, .float .f64 cy] 28)).cell? ⟨w.heap.size, 2, none⟩ = some (.float .f64 cx) := by rw [World.cell?_alloc_new]; rfl
  replace z0_2 := up_alloc (o := .cells #[.float .f64 px, .float .f64 py] 26) z0_2
  have z0_3 : (w.alloc (.cells #[.float .f64 ma, .float .f64 ia, .float .f64 cx, .float .f64 cy] 28)).cell? ⟨w.heap.size, 3, none⟩ = some (.float .f64 cy) := by rw [World.cell?_alloc_new]; rfl
  replace z0_3 := up_alloc (o := .cells #[.float .f64 px, .float .f64 py] 26) z0_3
  have z1_0 : ((w.alloc (.cells #[.float .f64 ma, .float .f64 ia, .float .f64 cx, .float .f64 cy] 28)).alloc (.cells #[.float .f64 px, .float .f64 py] 26)).cell? ⟨w.heap.size + 1, 0, none⟩ = some (.float .f64 px) := by rw [← (show (w.alloc (.cells #[.float .f64 ma, .float .f64 ia, .float .f64 cx, .float .f64 cy] 28)).heap.size = w.heap.size + 1 by simp only [World.size_alloc]), World.cell?_alloc_new]; rfl
  have z1_1 : ((w.alloc (.cells #[.float .f64 ma, .float .f64 ia, .float .f64 cx, .float .f64 cy] 28)).alloc (.cells #[.float .f64 px, .float .f64 py] 26)).cell? ⟨w.heap.size + 1, 1, none⟩ = some (.float .f64 py) := by rw [← (show (w.alloc (.cells #[.float .f64 ma, .float .f64 ia, .float .f64 cx, .float .f64 cy] 28)).heap.size = w.heap.size + 1 by simp only [World.size_alloc]), World.cell?_alloc_new]; rfl
  have B0 : Bel w ((w.alloc (.cells #[.float .f64 ma, .float .f64 ia, .float .f64 cx, .float .f64 cy] 28)).alloc (.cells #[.float .f64 px, .float .f64 py] 26)) := bl_alloc (bl_alloc (bl_refl w) _ _) _ _
  go_enter Try.func24, Try.ntmps24
  go_wp2
  refine wp_region_multiA 12 (fun i v => match i with | 0 => v = .pointer (some ⟨w.heap.size, 1, none⟩) | 1 => v = .float .f64 ia | 2 => v = .pointer (some ⟨w.heap.size, 0, none⟩) | 3 => v = .float .f64 ma | 4 => v = .agg #[.float .f64 px, .float .f64 py] | 5 => v = .pointer (some ⟨w.heap.size, 2, none⟩) | 6 => v = .agg #[.float .f64 cx, .float .f64 cy] | 7 => ∃ x y, SubR px py cx cy x y ∧ v = .agg #[.float .f64 x, .float .f64 y] | 8 => ∃ x y t, SubR px py cx cy x y ∧ DotR x y x y t ∧ v = .float .f64 t | 9 => ∃ x y t q, SubR px py cx cy x y ∧ DotR x y x y t ∧ resK .mul .f64 ma t q ∧ v = .float .f64 q | 10 => ∃ r, AboutR ma ia cx cy px py r ∧ v = .float .f64 r | 11 => ∃ r, AboutR ma ia cx cy px py r ∧ v = .float .f64 r | _ => False) (fun i => match i with  | _ => none) ?A_wf (by kernel_rfl) (by kernel_rfl) ?hA_wf ?ha_wf ?hq_wf [] rfl ?ht_wf
  case hA_wf =>
    intro s
    simp only [putL, dstO, Act.put, List.getElem?_toArray, List.getElem?_cons_zero, List.getElem?_cons_succ, Option.bind_some, List.setIfInBounds_toArray, List.set_cons_zero, List.set_cons_succ, if_true]
    all_goals exact rfl
  case ha_wf =>
    intro i o ob hi ho hal
    rcases (show i = 0 ∨ i = 1 ∨ i = 2 ∨ i = 3 ∨ i = 4 ∨ i = 5 ∨ i = 6 ∨ i = 7 ∨ i = 8 ∨ i = 9 ∨ i = 10 ∨ i = 11 by omega) with rfl | rfl | rfl | rfl | rfl | rfl | rfl | rfl | rfl | rfl | rfl | rfl
    · cases hal
    · cases hal
    · cases hal
    · cases hal
    · cases hal
    · cases hal
    · cases hal
    · cases hal
    · cases hal
    · cases hal
    · cases hal
    · cases hal
  case hq_wf =>
    intro i o hi ho hal s hs W hb K hK
    have q1 := run_mul Try.prog; have q2 := run_add Try.prog; have yz0_0 := keep hb z0_0; have yz0_1 := keep hb z0_1; have yz0_2 := keep hb z0_2; have yz0_3 := keep hb z0_3; have yz1_0 := keep hb z1_0; have yz1_1 := keep hb z1_1
    rcases (show i = 0 ∨ i = 1 ∨ i = 2 ∨ i = 3 ∨ i = 4 ∨ i = 5 ∨ i = 6 ∨ i = 7 ∨ i = 8 ∨ i = 9 ∨ i = 10 ∨ i = 11 by omega) with rfl | rfl | rfl | rfl | rfl | rfl | rfl | rfl | rfl | rfl | rfl | rfl
    · cases ho
      simp only [Act.put, List.setIfInBounds_toArray, List.set_cons_zero, List.set_cons_succ] at hK
      clear hs
      go_simp
      all_goals (try go_wp2_with (first | (go_at_call 44; refine (vSub_any _ _ _ _ _).mono ?_; rintro e w' ⟨x, y, hS, rfl, hb1⟩) | (go_at_call 43; refine (vSquare_any _ _ _).mono ?_; rintro e w' ⟨t, hD, rfl, hb1⟩)))
      all_goals first | exact hK.out _ _ ⟨_, _, hS, rfl⟩ hb1 | exact hK.out _ _ ⟨_, _, _, hS, hD, rfl⟩ hb1 | exact hK.out _ _ ⟨_, _, _, _, hS, hD, fv_res .mul .f64 _ _ _, rfl⟩ (by first | exact bl_refl _ | exact bl_drewN (bl_refl _) _) | exact hK.out _ _ ⟨_, ⟨_, _, _, _, hS, hD, hM, fv_res .add .f64 _ _ _⟩, rfl⟩ (by first | exact bl_refl _ | exact bl_drewN (bl_refl _) _) | exact hK.out _ _ ⟨_, hR, rfl⟩ (bl_refl _) | exact hK.out _ _ rfl (bl_refl _) | exact hK.out _ _ rfl (by assumption) | exact hK.out _ _ (by assumption) (by assumption)
    · cases ho
      have e0 : s 0 = _ := hs 0 (by decide) (by kernel_rfl)
      simp only [e0] at hK ⊢
      simp only [Act.put, List.setIfInBounds_toArray, List.set_cons_zero, List.set_cons_succ] at hK
      clear hs
      go_simp
      all_goals (try go_wp2_with (first | (go_at_call 44; refine (vSub_any _ _ _ _ _).mono ?_; rintro e w' ⟨x, y, hS, rfl, hb1⟩) | (go_at_call 43; refine (vSquare_any _ _ _).mono ?_; rintro e w' ⟨t, hD, rfl, hb1⟩)))
      all_goals first | exact hK.out _ _ ⟨_, _, hS, rfl⟩ hb1 | exact hK.out _ _ ⟨_, _, _, hS, hD, rfl⟩ hb1 | exact hK.out _ _ ⟨_, _, _, _, hS, hD, fv_res .mul .f64 _ _ _, rfl⟩ (by first | exact bl_refl _ | exact bl_drewN (bl_refl _) _) | exact hK.out _ _ ⟨_, ⟨_, _, _, _, hS, hD, hM, fv_res .add .f64 _ _ _⟩, rfl⟩ (by first | exact bl_refl _ | exact bl_drewN (bl_refl _) _) | exact hK.out _ _ ⟨_, hR, rfl⟩ (bl_refl _) | exact hK.out _ _ rfl (bl_refl _) | exact hK.out _ _ rfl (by assumption) | exact hK.out _ _ (by assumption) (by assumption)
    · cases ho
      simp only [Act.put, List.setIfInBounds_toArray, List.set_cons_zero, List.set_cons_succ] at hK
      clear hs
      go_simp
      all_goals (try go_wp2_with (first | (go_at_call 44; refine (vSub_any _ _ _ _ _).mono ?_; rintro e w' ⟨x, y, hS, rfl, hb1⟩) | (go_at_call 43; refine (vSquare_any _ _ _).mono ?_; rintro e w' ⟨t, hD, rfl, hb1⟩)))
      all_goals first | exact hK.out _ _ ⟨_, _, hS, rfl⟩ hb1 | exact hK.out _ _ ⟨_, _, _, hS, hD, rfl⟩ hb1 | exact hK.out _ _ ⟨_, _, _, _, hS, hD, fv_res .mul .f64 _ _ _, rfl⟩ (by first | exact bl_refl _ | exact bl_drewN (bl_refl _) _) | exact hK.out _ _ ⟨_, ⟨_, _, _, _, hS, hD, hM, fv_res .add .f64 _ _ _⟩, rfl⟩ (by first | exact bl_refl _ | exact bl_drewN (bl_refl _) _) | exact hK.out _ _ ⟨_, hR, rfl⟩ (bl_refl _) | exact hK.out _ _ rfl (bl_refl _) | exact hK.out _ _ rfl (by assumption) | exact hK.out _ _ (by assumption) (by assumption)
    · cases ho
      have e2 : s 2 = _ := hs 2 (by decide) (by kernel_rfl)
      simp only [e2] at hK ⊢
      simp only [Act.put, List.setIfInBounds_toArray, List.set_cons_zero, List.set_cons_succ] at hK
      clear hs
      go_simp
      all_goals (try go_wp2_with (first | (go_at_call 44; refine (vSub_any _ _ _ _ _).mono ?_; rintro e w' ⟨x, y, hS, rfl, hb1⟩) | (go_at_call 43; refine (vSquare_any _ _ _).mono ?_; rintro e w' ⟨t, hD, rfl, hb1⟩)))
      all_goals first | exact hK.out _ _ ⟨_, _, hS, rfl⟩ hb1 | exact hK.out _ _ ⟨_, _, _, hS, hD, rfl⟩ hb1 | exact hK.out _ _ ⟨_, _, _, _, hS, hD, fv_res .mul .f64 _ _ _, rfl⟩ (by first | exact bl_refl _ | exact bl_drewN (bl_refl _) _) | exact hK.out _ _ ⟨_, ⟨_, _, _, _, hS, hD, hM, fv_res .add .f64 _ _ _⟩, rfl⟩ (by first | exact bl_refl _ | exact bl_drewN (bl_refl _) _) | exact hK.out _ _ ⟨_, hR, rfl⟩ (bl_refl _) | exact hK.out _ _ rfl (bl_refl _) | exact hK.out _ _ rfl (by assumption) | exact hK.out _ _ (by assumption) (by assumption)
    · cases ho
      simp only [Act.put, List.setIfInBounds_toArray, List.set_cons_zero, List.set_cons_succ] at hK
      clear hs
      go_simp
      all_goals (try go_wp2_with (first | (go_at_call 44; refine (vSub_any _ _ _ _ _).mono ?_; rintro e w' ⟨x, y, hS, rfl, hb1⟩) | (go_at_call 43; refine (vSquare_any _ _ _).mono ?_; rintro e w' ⟨t, hD, rfl, hb1⟩)))
      all_goals first | exact hK.out _ _ ⟨_, _, hS, rfl⟩ hb1 | exact hK.out _ _ ⟨_, _, _, hS, hD, rfl⟩ hb1 | exact hK.out _ _ ⟨_, _, _, _, hS, hD, fv_res .mul .f64 _ _ _, rfl⟩ (by first | exact bl_refl _ | exact bl_drewN (bl_refl _) _) | exact hK.out _ _ ⟨_, ⟨_, _, _, _, hS, hD, hM, fv_res .add .f64 _ _ _⟩, rfl⟩ (by first | exact bl_refl _ | exact bl_drewN (bl_refl _) _) | exact hK.out _ _ ⟨_, hR, rfl⟩ (bl_refl _) | exact hK.out _ _ rfl (bl_refl _) | exact hK.out _ _ rfl (by assumption) | exact hK.out _ _ (by assumption) (by assumption)
    · cases ho
      simp only [Act.put, List.setIfInBounds_toArray, List.set_cons_zero, List.set_cons_succ] at hK
      clear hs
      go_simp
      all_goals (try go_wp2_with (first | (go_at_call 44; refine (vSub_any _ _ _ _ _).mono ?_; rintro e w' ⟨x, y, hS, rfl, hb1⟩) | (go_at_call 43; refine (vSquare_any _ _ _).mono ?_; rintro e w' ⟨t, hD, rfl, hb1⟩)))
      all_goals first | exact hK.out _ _ ⟨_, _, hS, rfl⟩ hb1 | exact hK.out _ _ ⟨_, _, _, hS, hD, rfl⟩ hb1 | exact hK.out _ _ ⟨_, _, _, _, hS, hD, fv_res .mul .f64 _ _ _, rfl⟩ (by first | exact bl_refl _ | exact bl_drewN (bl_refl _) _) | exact hK.out _ _ ⟨_, ⟨_, _, _, _, hS, hD, hM, fv_res .add .f64 _ _ _⟩, rfl⟩ (by first | exact bl_refl _ | exact bl_drewN (bl_refl _) _) | exact hK.out _ _ ⟨_, hR, rfl⟩ (bl_refl _) | exact hK.out _ _ rfl (bl_refl _) | exact hK.out _ _ rfl (by assumption) | exact hK.out _ _ (by assumption) (by assumption)
    · cases ho
      have e5 : s 5 = _ := hs 5 (by decide) (by kernel_rfl)
      simp only [e5] at hK ⊢
      simp only [Act.put, List.setIfInBounds_toArray, List.set_cons_zero, List.set_cons_succ] at hK
      clear hs
      go_simp
      all_goals (try go_wp2_with (first | (go_at_call 44; refine (vSub_any _ _ _ _ _).mono ?_; rintro e w' ⟨x, y, hS, rfl, hb1⟩) | (go_at_call 43; refine (vSquare_any _ _ _).mono ?_; rintro e w' ⟨t, hD, rfl, hb1⟩)))
      all_goals first | exact hK.out _ _ ⟨_, _, hS, rfl⟩ hb1 | exact hK.out _ _ ⟨_, _, _, hS, hD, rfl⟩ hb1 | exact hK.out _ _ ⟨_, _, _, _, hS, hD, fv_res .mul .f64 _ _ _, rfl⟩ (by first | exact bl_refl _ | exact bl_drewN (bl_refl _) _) | exact hK.out _ _ ⟨_, ⟨_, _, _, _, hS, hD, hM, fv_res .add .f64 _ _ _⟩, rfl⟩ (by first | exact bl_refl _ | exact bl_drewN (bl_refl _) _) | exact hK.out _ _ ⟨_, hR, rfl⟩ (bl_refl _) | exact hK.out _ _ rfl (bl_refl _) | exact hK.out _ _ rfl (by assumption) | exact hK.out _ _ (by assumption) (by assumption)
    · cases ho
      have e4 : s 4 = _ := hs 4 (by decide) (by kernel_rfl)
      have e6 : s 6 = _ := hs 6 (by decide) (by kernel_rfl)
      simp only [e4, e6] at hK ⊢
      simp only [Act.put, List.setIfInBounds_toArray, List.set_cons_zero, List.set_cons_succ] at hK
      clear hs
      go_simp
      all_goals (try go_wp2_with (first | (go_at_call 44; refine (vSub_any _ _ _ _ _).mono ?_; rintro e w' ⟨x, y, hS, rfl, hb1⟩) | (go_at_call 43; refine (vSquare_any _ _ _).mono ?_; rintro e w' ⟨t, hD, rfl, hb1⟩)))
      all_goals first | exact hK.out _ _ ⟨_, _, hS, rfl⟩ hb1 | exact hK.out _ _ ⟨_, _, _, hS, hD, rfl⟩ hb1 | exact hK.out _ _ ⟨_, _, _, _, hS, hD, fv_res .mul .f64 _ _ _, rfl⟩ (by first | exact bl_refl _ | exact bl_drewN (bl_refl _) _) | exact hK.out _ _ ⟨_, ⟨_, _, _, _, hS, hD, hM, fv_res .add .f64 _ _ _⟩, rfl⟩ (by first | exact bl_refl _ | exact bl_drewN (bl_refl _) _) | exact hK.out _ _ ⟨_, hR, rfl⟩ (bl_refl _) | exact hK.out _ _ rfl (bl_refl _) | exact hK.out _ _ rfl (by assumption) | exact hK.out _ _ (by assumption) (by assumption)
    · cases ho
      obtain ⟨x, y, hS, e7⟩ := hs 7 (by decide) (by kernel_rfl)
      simp only [e7] at hK ⊢
      simp only [Act.put, List.setIfInBounds_toArray, List.set_cons_zero, List.set_cons_succ] at hK
      clear hs
      go_simp
      all_goals (try go_wp2_with (first | (go_at_call 44; refine (vSub_any _ _ _ _ _).mono ?_; rintro e w' ⟨x, y, hS, rfl, hb1⟩) | (go_at_call 43; refine (vSquare_any _ _ _).mono ?_; rintro e w' ⟨t, hD, rfl, hb1⟩)))
      all_goals first | exact hK.out _ _ ⟨_, _, hS, rfl⟩ hb1 | exact hK.out _ _ ⟨_, _, _, hS, hD, rfl⟩ hb1 | exact hK.out _ _ ⟨_, _, _, _, hS, hD, fv_res .mul .f64 _ _ _, rfl⟩ (by first | exact bl_refl _ | exact bl_drewN (bl_refl _) _) | exact hK.out _ _ ⟨_, ⟨_, _, _, _, hS, hD, hM, fv_res .add .f64 _ _ _⟩, rfl⟩ (by first | exact bl_refl _ | exact bl_drewN (bl_refl _) _) | exact hK.out _ _ ⟨_, hR, rfl⟩ (bl_refl _) | exact hK.out _ _ rfl (bl_refl _) | exact hK.out _ _ rfl (by assumption) | exact hK.out _ _ (by assumption) (by assumption)
    · cases ho
      have e3 : s 3 = _ := hs 3 (by decide) (by kernel_rfl)
      obtain ⟨x, y, t, hS, hD, e8⟩ := hs 8 (by decide) (by kernel_rfl)
      simp only [e3, e8] at hK ⊢
      simp only [Act.put, List.setIfInBounds_toArray, List.set_cons_zero, List.set_cons_succ] at hK
      clear hs
      go_simp
      all_goals (try go_wp2_with (first | (go_at_call 44; refine (vSub_any _ _ _ _ _).mono ?_; rintro e w' ⟨x, y, hS, rfl, hb1⟩) | (go_at_call 43; refine (vSquare_any _ _ _).mono ?_; rintro e w' ⟨t, hD, rfl, hb1⟩)))
      all_goals first | exact hK.out _ _ ⟨_, _, hS, rfl⟩ hb1 | exact hK.out _ _ ⟨_, _, _, hS, hD, rfl⟩ hb1 | exact hK.out _ _ ⟨_, _, _, _, hS, hD, fv_res .mul .f64 _ _ _, rfl⟩ (by first | exact bl_refl _ | exact bl_drewN (bl_refl _) _) | exact hK.out _ _ ⟨_, ⟨_, _, _, _, hS, hD, hM, fv_res .add .f64 _ _ _⟩, rfl⟩ (by first | exact bl_refl _ | exact bl_drewN (bl_refl _) _) | exact hK.out _ _ ⟨_, hR, rfl⟩ (bl_refl _) | exact hK.out _ _ rfl (bl_refl _) | exact hK.out _ _ rfl (by assumption) | exact hK.out _ _ (by assumption) (by assumption)
    · cases ho
      have e1 : s 1 = _ := hs 1 (by decide) (by kernel_rfl)
      obtain ⟨x, y, t, q, hS, hD, hM, e9⟩ := hs 9 (by decide) (by kernel_rfl)
      simp only [e1, e9] at hK ⊢
      simp only [Act.put, List.setIfInBounds_toArray, List.set_cons_zero, List.set_cons_succ] at hK
      clear hs
      go_simp
      all_goals (try go_wp2_with (first | (go_at_call 44; refine (vSub_any _ _ _ _ _).mono ?_; rintro e w' ⟨x, y, hS, rfl, hb1⟩) | (go_at_call 43; refine (vSquare_any _ _ _).mono ?_; rintro e w' ⟨t, hD, rfl, hb1⟩)))
      all_goals first | exact hK.out _ _ ⟨_, _, hS, rfl⟩ hb1 | exact hK.out _ _ ⟨_, _, _, hS, hD, rfl⟩ hb1 | exact hK.out _ _ ⟨_, _, _, _, hS, hD, fv_res .mul .f64 _ _ _, rfl⟩ (by first | exact bl_refl _ | exact bl_drewN (bl_refl _) _) | exact hK.out _ _ ⟨_, ⟨_, _, _, _, hS, hD, hM, fv_res .add .f64 _ _ _⟩, rfl⟩ (by first | exact bl_refl _ | exact bl_drewN (bl_refl _) _) | exact hK.out _ _ ⟨_, hR, rfl⟩ (bl_refl _) | exact hK.out _ _ rfl (bl_refl _) | exact hK.out _ _ rfl (by assumption) | exact hK.out _ _ (by assumption) (by assumption)
    · cases ho
      obtain ⟨r, hR, e10⟩ := hs 10 (by decide) (by kernel_rfl)
      simp only [e10] at hK ⊢
      simp only [Act.put, List.setIfInBounds_toArray, List.set_cons_zero, List.set_cons_succ] at hK
      clear hs
      go_simp
      all_goals (try go_wp2_with (first | (go_at_call 44; refine (vSub_any _ _ _ _ _).mono ?_; rintro e w' ⟨x, y, hS, rfl, hb1⟩) | (go_at_call 43; refine (vSquare_any _ _ _).mono ?_; rintro e w' ⟨t, hD, rfl, hb1⟩)))
      all_goals first | exact hK.out _ _ ⟨_, _, hS, rfl⟩ hb1 | exact hK.out _ _ ⟨_, _, _, hS, hD, rfl⟩ hb1 | exact hK.out _ _ ⟨_, _, _, _, hS, hD, fv_res .mul .f64 _ _ _, rfl⟩ (by first | exact bl_refl _ | exact bl_drewN (bl_refl _) _) | exact hK.out _ _ ⟨_, ⟨_, _, _, _, hS, hD, hM, fv_res .add .f64 _ _ _⟩, rfl⟩ (by first | exact bl_refl _ | exact bl_drewN (bl_refl _) _) | exact hK.out _ _ ⟨_, hR, rfl⟩ (bl_refl _) | exact hK.out _ _ rfl (bl_refl _) | exact hK.out _ _ rfl (by assumption) | exact hK.out _ _ (by assumption) (by assumption)
  case ht_wf =>
    intro s hs W hb hJ
    have e0 : s 0 = _ := hs 0 (by decide)
    have e1 : s 1 = _ := hs 1 (by decide)
    have e2 : s 2 = _ := hs 2 (by decide)
    have e3 : s 3 = _ := hs 3 (by decide)
    have e4 : s 4 = _ := hs 4 (by decide)
    have e5 : s 5 = _ := hs 5 (by decide)
    have e6 : s 6 = _ := hs 6 (by decide)
    obtain ⟨_, _, _, e7⟩ := hs 7 (by decide)
    obtain ⟨_, _, _, _, _, e8⟩ := hs 8 (by decide)
    obtain ⟨_, _, _, _, _, _, _, e9⟩ := hs 9 (by decide)
    obtain ⟨_, _, e10⟩ := hs 10 (by decide)
    obtain ⟨r, hR, e11⟩ := hs 11 (by decide)
    simp only [e0, e1, e2, e3, e4, e5, e6, e7, e8, e9, e10, e11]
    clear hs
    refine tail_end ?_
    go_wp2
    go_ret
    exact ⟨_, hR, rfl, bl_trans B0 hb⟩
theorem over_any (a : Nat) (w : World) : Calls Try.prog 41 #[.float .f64 a] w fun e w' => ∃ r, OverR a r ∧ e = .returned (.float .f64 r) ∧ Bel w w' := by
  have q := run_quo Try.prog
  cases h : finK .f64 (fv .quo .f64 4607182418800017408 a w)
  all_goals
    go_enter Try.func41, Try.ntmps41
    go_wp2_with (first | (go_at_call 49; refine (finite_6 _ _).mono ?_; rintro e w' ⟨n, rfl, rfl⟩; rw [h]))
    go_ret
    exact ⟨_, ⟨_, fv_res .quo .f64 _ _ w, by first | (rw [if_pos h]; done) | (rw [if_neg (by rw [h]; decide)]; done)⟩, rfl, by first | exact bl_refl _ | exact bl_drewN (bl_refl _) _ | exact bl_drewN (bl_drewN (bl_refl _) _) _⟩
theorem rChk_any (ma ia cx cy : Nat) (ox : okK .f64 cx) (oy : okK .f64 cy) (w : World) : Calls Try.prog 26 #[.agg #[.float .f64 ma, .float .f64 ia, .float .f64 cx, .float .f64 cy]] w fun e w' => e = .returned (.int .i64 (mE ma ia cx cy)) ∧ Bel w w' := by
  have g : mB ma ia cx cy = (endB ma && endB ia && (withinK .f64 cx 4787326403894837248 && withinK .f64 cy 4787326403894837248)) := rfl
  have om : okK .f64 4787326403894837248 := by rw [okK64]; decide
  rcases (show (endB ma = false) ∨ (endB ma = true ∧ endB ia = false) ∨ (endB ma = true ∧ endB ia = true ∧ (withinK .f64 cx 4787326403894837248 && withinK .f64 cy 4787326403894837248) = false) ∨ (endB ma = true ∧ endB ia = true ∧ (withinK .f64 cx 4787326403894837248 && withinK .f64 cy 4787326403894837248) = true) by cases endB ma <;> cases endB ia <;> cases (withinK .f64 cx 4787326403894837248 && withinK .f64 cy 4787326403894837248) <;> simp) with h1 | ⟨h1, h2⟩ | ⟨h1, h2, h3⟩ | ⟨h1, h2, h3⟩
  · have e := mE_no (m := ma) (i := ia) (x := cx) (y := cy) (by rw [g, h1]; rfl)
    go_enter Try.func26, Try.ntmps26
    go_wp2_with (first | (go_at_call 45; refine (rEnd_any _ _).mono ?_; rintro e w' ⟨rfl, hb⟩; (try first | rw [h1] | rw [h2]); (first | have B := bl_trans B hb | have B := bl_trans (by repeat (first | exact B | apply bl_drewN)) hb | have B := bl_trans (by repeat (first | exact B | apply bl_drewN | apply bl_drew | apply bl_alloc | refine bl_set ?_ (by simp <;> omega))) hb | have B := hb); (try clear hc hf hz); obtain ⟨hc, hf⟩ := bcell B; have hz := B.size; (try simp at hz)) | (go_at_call 46; refine (rWithin_any _ _ _ ox oy om _).mono ?_; rintro e w' ⟨rfl, hb⟩; (try rw [h3]); (first | have B := bl_trans B hb | have B := bl_trans (by repeat (first | exact B | apply bl_drewN)) hb | have B := bl_trans (by repeat (first | exact B | apply bl_drewN | apply bl_drew | apply bl_alloc | refine bl_set ?_ (by simp <;> omega))) hb | have B := hb); (try clear hc hf hz); obtain ⟨hc, hf⟩ := bcell B; have hz := B.size; (try simp at hz)))
    go_ret
    refine ⟨by rw [e]; rfl, ?_⟩
    repeat (first | exact bl_refl _ | assumption | apply bl_drewN | apply bl_drew | apply bl_alloc | refine bl_set ?_ (by simp <;> omega) | refine bl_trans ?_ (by assumption))
  · have e := mE_no (m := ma) (i := ia) (x := cx) (y := cy) (by rw [g, h1, h2]; rfl)
    go_enter Try.func26, Try.ntmps26
    go_wp2_with (first | (go_at_call 45; refine (rEnd_any _ _).mono ?_; rintro e w' ⟨rfl, hb⟩; (try first | rw [h1] | rw [h2]); (first | have B := bl_trans B hb | have B := bl_trans (by repeat (first | exact B | apply bl_drewN)) hb | have B := bl_trans (by repeat (first | exact B | apply bl_drewN | apply bl_drew | apply bl_alloc | refine bl_set ?_ (by simp <;> omega))) hb | have B := hb); (try clear hc hf hz); obtain ⟨hc, hf⟩ := bcell B; have hz := B.size; (try simp at hz)) | (go_at_call 46; refine (rWithin_any _ _ _ ox oy om _).mono ?_; rintro e w' ⟨rfl, hb⟩; (try rw [h3]); (first | have B := bl_trans B hb | have B := bl_trans (by repeat (first | exact B | apply bl_drewN)) hb | have B := bl_trans (by repeat (first | exact B | apply bl_drewN | apply bl_drew | apply bl_alloc | refine bl_set ?_ (by simp <;> omega))) hb | have B := hb); (try clear hc hf hz); obtain ⟨hc, hf⟩ := bcell B; have hz := B.size; (try simp at hz)))
    go_ret
    refine ⟨by rw [e]; rfl, ?_⟩
    repeat (first | exact bl_refl _ | assumption | apply bl_drewN | apply bl_drew | apply bl_alloc | refine bl_set ?_ (by simp <;> omega) | refine bl_trans ?_ (by assumption))
  · have e := mE_no (m := ma) (i := ia) (x := cx) (y := cy) (by rw [g, h1, h2, h3]; rfl)
    go_enter Try.func26, Try.ntmps26
    go_wp2_with (first | (go_at_call 45; refine (rEnd_any _ _).mono ?_; rintro e w' ⟨rfl, hb⟩; (try first | rw [h1] | rw [h2]); (first | have B := bl_trans B hb | have B := bl_trans (by repeat (first | exact B | apply bl_drewN)) hb | have B := bl_trans (by repeat (first | exact B | apply bl_drewN | apply bl_drew | apply bl_alloc | refine bl_set ?_ (by simp <;> omega))) hb | have B := hb); (try clear hc hf hz); obtain ⟨hc, hf⟩ := bcell B; have hz := B.size; (try simp at hz)) | (go_at_call 46; refine (rWithin_any _ _ _ ox oy om _).mono ?_; rintro e w' ⟨rfl, hb⟩; (try rw [h3]); (first | have B := bl_trans B hb | have B := bl_trans (by repeat (first | exact B | apply bl_drewN)) hb | have B := bl_trans (by repeat (first | exact B | apply bl_drewN | apply bl_drew | apply bl_alloc | refine bl_set ?_ (by simp <;> omega))) hb | have B := hb); (try clear hc hf hz); obtain ⟨hc, hf⟩ := bcell B; have hz := B.size; (try simp at hz)))
    go_ret
    refine ⟨by rw [e]; rfl, ?_⟩
    repeat (first | exact bl_refl _ | assumption | apply bl_drewN | apply bl_drew | apply bl_alloc | refine bl_set ?_ (by simp <;> omega) | refine bl_trans ?_ (by assumption))
  · have e := mE_yes (m := ma) (i := ia) (x := cx) (y := cy) (by rw [g, h1, h2, h3]; rfl)
    go_enter Try.func26, Try.ntmps26
    go_wp2_with (first | (go_at_call 45; refine (rEnd_any _ _).mono ?_; rintro e w' ⟨rfl, hb⟩; (try first | rw [h1] | rw [h2]); (first | have B := bl_trans B hb | have B := bl_trans (by repeat (first | exact B | apply bl_drewN)) hb | have B := bl_trans (by repeat (first | exact B | apply bl_drewN | apply bl_drew | apply bl_alloc | refine bl_set ?_ (by simp <;> omega))) hb | have B := hb); (try clear hc hf hz); obtain ⟨hc, hf⟩ := bcell B; have hz := B.size; (try simp at hz)) | (go_at_call 46; refine (rWithin_any _ _ _ ox oy om _).mono ?_; rintro e w' ⟨rfl, hb⟩; (try rw [h3]); (first | have B := bl_trans B hb | have B := bl_trans (by repeat (first | exact B | apply bl_drewN)) hb | have B := bl_trans (by repeat (first | exact B | apply bl_drewN | apply bl_drew | apply bl_alloc | refine bl_set ?_ (by simp <;> omega))) hb | have B := hb); (try clear hc hf hz); obtain ⟨hc, hf⟩ := bcell B; have hz := B.size; (try simp at hz)))
    go_ret
    refine ⟨by rw [e]; rfl, ?_⟩
    repeat (first | exact bl_refl _ | assumption | apply bl_drewN | apply bl_drew | apply bl_alloc | refine bl_set ?_ (by simp <;> omega) | refine bl_trans ?_ (by assumption))
def AbA (ma ia cx cy px py r : Nat) (k : Int) : Prop := (mB ma ia cx cy = false ∧ r = 0 ∧ k = 80) ∨ (mB ma ia cx cy = true ∧ (withinK .f64 px 4787326403894837248 && withinK .f64 py 4787326403894837248) = false ∧ r = 0 ∧ k = 5) ∨ (mB ma ia cx cy = true ∧ (withinK .f64 px 4787326403894837248 && withinK .f64 py 4787326403894837248) = true ∧ AboutR ma ia cx cy px py r ∧ k = 0)
theorem AbA.sm {ma ia cx cy px py r r' : Nat} {k k' : Int} (h : AbA ma ia cx cy px py r k) (g : AbA ma ia cx cy px py r' k') : smK .f64 r r' = true ∧ k = k' := by
  rcases h with ⟨h1, rfl, rfl⟩ | ⟨h1, h2, rfl, rfl⟩ | ⟨h1, h2, h3, rfl⟩ <;> rcases g with ⟨g1, rfl, rfl⟩ | ⟨g1, g2, rfl, rfl⟩ | ⟨g1, g2, g3, rfl⟩ <;> first | exact ⟨smK_self _ _, rfl⟩ | exact ⟨h3.sm g3, rfl⟩ | simp_all
theorem mAbout_any (ma ia cx cy : Nat) (px py : Nat) (w : World) : Calls Try.prog 11 #[.agg #[.float .f64 ma, .float .f64 ia, .float .f64 cx, .float .f64 cy], .agg #[.float .f64 px, .float .f64 py]] w fun e w' => ∃ r k, AbA ma ia cx cy px py r k ∧ e = .returned (.tuple #[.float .f64 r, .int .i64 k]) ∧ Bel w w' := by
  cases h1 : mB ma ia cx cy
  · have e := mE_no h1
    go_enter Try.func11, Try.ntmps11
    go_wp2_with (first | (go_at_call 10; refine (mChk_any _ _ _ _ _).mono ?_; rintro e w' ⟨rfl, hb⟩; rw [e]; (first | have B := bl_trans B hb | have B := bl_trans (by repeat (first | exact B | apply bl_drewN)) hb | have B := bl_trans (by repeat (first | exact B | apply bl_drewN | apply bl_drew | apply bl_alloc | refine bl_set ?_ (by simp <;> omega))) hb | have B := hb); (try clear hc hf hz); obtain ⟨hc, hf⟩ := bcell B; have hz := B.size; (try simp at hz)))
    refine bodyPost_ret (v := .tuple #[.float .f64 0, .int .i64 80]) (by simp [results, Try.results11, go_sem] <;> (first | exact ⟨⟨rfl, rfl⟩, rfl⟩ | exact ⟨rfl, rfl, rfl, rfl⟩ | exact ⟨rfl, rfl, rfl⟩ | exact ⟨rfl, rfl⟩ | rfl)) rfl ⟨_, _, .inl ⟨h1, rfl, rfl⟩, rfl, ?_⟩
    repeat (first | exact bl_refl _ | assumption | apply bl_drewN | apply bl_drew | apply bl_alloc | refine bl_set ?_ (by simp <;> omega) | refine bl_trans ?_ (by assumption))
  · have e := mE_yes h1
    cases h2 : (withinK .f64 px 4787326403894837248 && withinK .f64 py 4787326403894837248)
    · go_enter Try.func11, Try.ntmps11
      go_wp2_with (first | (go_at_call 10; refine (mChk_any _ _ _ _ _).mono ?_; rintro e w' ⟨rfl, hb⟩; rw [e]; (first | have B := bl_trans B hb | have B := bl_trans (by repeat (first | exact B | apply bl_drewN)) hb | have B := bl_trans (by repeat (first | exact B | apply bl_drewN | apply bl_drew | apply bl_alloc | refine bl_set ?_ (by simp <;> omega))) hb | have B := hb); (try clear hc hf hz); obtain ⟨hc, hf⟩ := bcell B; have hz := B.size; (try simp at hz)) | (go_at_call 12; refine (vWithin_any _ _ _ _).mono ?_; rintro e w' ⟨rfl, hb⟩; rw [h2]; (first | have B := bl_trans B hb | have B := bl_trans (by repeat (first | exact B | apply bl_drewN)) hb | have B := bl_trans (by repeat (first | exact B | apply bl_drewN | apply bl_drew | apply bl_alloc | refine bl_set ?_ (by simp <;> omega))) hb | have B := hb); (try clear hc hf hz); obtain ⟨hc, hf⟩ := bcell B; have hz := B.size; (try simp at hz)))
      refine bodyPost_ret (v := .tuple #[.float .f64 0, .int .i64 5]) (by simp [results, Try.results11, go_sem] <;> (first | exact ⟨⟨rfl, rfl⟩, rfl⟩ | exact ⟨rfl, rfl, rfl, rfl⟩ | exact ⟨rfl, rfl, rfl⟩ | exact ⟨rfl, rfl⟩ | rfl)) rfl ⟨_, _, .inr (.inl ⟨h1, h2, rfl, rfl⟩), rfl, ?_⟩
      repeat (first | exact bl_refl _ | assumption | apply bl_drewN | apply bl_drew | apply bl_alloc | refine bl_set ?_ (by simp <;> omega) | refine bl_trans ?_ (by assumption))
    · go_enter Try.func11, Try.ntmps11
      go_wp2_with (first | (go_at_call 10; refine (mChk_any _ _ _ _ _).mono ?_; rintro e w' ⟨rfl, hb⟩; rw [e]; (first | have B := bl_trans B hb | have B := bl_trans (by repeat (first | exact B | apply bl_drewN)) hb | have B := bl_trans (by repeat (first | exact B | apply bl_drewN | apply bl_drew | apply bl_alloc | refine bl_set ?_ (by simp <;> omega))) hb | have B := hb); (try clear hc hf hz); obtain ⟨hc, hf⟩ := bcell B; have hz := B.size; (try simp at hz)) | (go_at_call 12; refine (vWithin_any _ _ _ _).mono ?_; rintro e w' ⟨rfl, hb⟩; rw [h2]; (first | have B := bl_trans B hb | have B := bl_trans (by repeat (first | exact B | apply bl_drewN)) hb | have B := bl_trans (by repeat (first | exact B | apply bl_drewN | apply bl_drew | apply bl_alloc | refine bl_set ?_ (by simp <;> omega))) hb | have B := hb); (try clear hc hf hz); obtain ⟨hc, hf⟩ := bcell B; have hz := B.size; (try simp at hz)) | (go_at_call 24; refine (about_any _ _ _ _ _ _ _).mono ?_; rintro e w' ⟨r, hR, rfl, hb⟩; (first | have B := bl_trans B hb | have B := bl_trans (by repeat (first | exact B | apply bl_drewN)) hb | have B := bl_trans (by repeat (first | exact B | apply bl_drewN | apply bl_drew | apply bl_alloc | refine bl_set ?_ (by simp <;> omega))) hb | have B := hb); (try clear hc hf hz); obtain ⟨hc, hf⟩ := bcell B; have hz := B.size; (try simp at hz)))
      refine bodyPost_ret (v := .tuple #[.float .f64 r, .int .i64 0]) (by simp [results, Try.results11, go_sem] <;> (first | exact ⟨⟨rfl, rfl⟩, rfl⟩ | exact ⟨rfl, rfl, rfl, rfl⟩ | exact ⟨rfl, rfl, rfl⟩ | exact ⟨rfl, rfl⟩ | rfl)) rfl ⟨_, _, .inr (.inr ⟨h1, h2, hR, rfl⟩), rfl, ?_⟩
      repeat (first | exact bl_refl _ | assumption | apply bl_drewN | apply bl_drew | apply bl_alloc | refine bl_set ?_ (by simp <;> omega) | refine bl_trans ?_ (by assumption))
def StA (ma ia cx cy a b : Nat) (k : Int) : Prop := (mB ma ia cx cy = false ∧ a = 0 ∧ b = 0 ∧ k = 80) ∨ (mB ma ia cx cy = true ∧ OverR ma a ∧ OverR ia b ∧ k = 0)
theorem StA.sm {ma ia cx cy a b a' b' : Nat} {k k' : Int} (h : StA ma ia cx cy a b k) (g : StA ma ia cx cy a' b' k') : smK .f64 a a' = true ∧ smK .f64 b b' = true ∧ k = k' := by
  rcases h with ⟨h1, rfl, rfl, rfl⟩ | ⟨h1, h2, h3, rfl⟩ <;> rcases g with ⟨g1, rfl, rfl, rfl⟩ | ⟨g1, g2, g3, rfl⟩ <;> first | exact ⟨smK_self _ _, smK_self _ _, rfl⟩ | exact ⟨h2.sm g2, h3.sm g3, rfl⟩ | simp_all

set_option maxRecDepth 100000 in
set_option maxHeartbeats 1000000 in
theorem mStill_any (ma ia cx cy : Nat) (w : World) : Calls Try.prog 17 #[.agg #[.float .f64 ma, .float .f64 ia, .float .f64 cx, .float .f64 cy]] w fun e w' => ∃ a b k, StA ma ia cx cy a b k ∧ e = .returned (.tuple #[.float .f64 a, .float .f64 b, .int .i64 k]) ∧ Bel w w' := by
  cases h1 : mB ma ia cx cy
  · have e := mE_no h1
    go_enter Try.func17, Try.ntmps17
    go_wp2_with (first | (go_at_call 10; refine (mChk_any _ _ _ _ _).mono ?_; rintro e w' ⟨rfl, hb⟩; rw [e]; (first | have B := bl_trans B hb | have B := bl_trans (by repeat (first | exact B | apply bl_drewN)) hb | have B := bl_trans (by repeat (first | exact B | apply bl_drewN | apply bl_drew | apply bl_alloc | refine bl_set ?_ (by simp <;> omega))) hb | have B := hb); (try clear hc hf hz); obtain ⟨hc, hf⟩ := bcell B; have hz := B.size; (try simp at hz)))
    refine bodyPost_ret (v := .tuple #[.float .f64 0, .float .f64 0, .int .i64 80]) (by simp [results, Try.results17, go_sem] <;> (first | exact ⟨⟨rfl, rfl⟩, rfl⟩ | exact ⟨rfl, rfl, rfl, rfl⟩ | exact ⟨rfl, rfl, rfl⟩ | exact ⟨rfl, rfl⟩ | rfl)) rfl ⟨_, _, _, .inl ⟨h1, rfl, rfl, rfl⟩, rfl, ?_⟩
    repeat (first | exact bl_refl _ | assumption | apply bl_drewN | apply bl_drew | apply bl_alloc | refine bl_set ?_ (by simp <;> omega) | refine bl_trans ?_ (by assumption))
  · have e := mE_yes h1
    have z0_0 : (w.alloc (.cells #[.float .f64 ma, .float .f64 ia, .float .f64 cx, .float .f64 cy] 28)).cell? ⟨w.heap.size, 0, none⟩ = some (.float .f64 ma) := by rw [World.cell?_alloc_new]; rfl
    have z0_1 : (w.alloc (.cells #[.float .f64 ma, .float .f64 ia, .float .f64 cx, .float .f64 cy] 28)).cell? ⟨w.heap.size, 1, none⟩ = some (.float .f64 ia) := by rw [World.cell?_alloc_new]; rfl
    have z0_2 : (w.alloc (.cells #[.float .f64 ma, .float .f64 ia, .float .f64 cx, .float .f64 cy] 28)).cell? ⟨w.heap.size, 2, none⟩ = some (.float .f64 cx) := by rw [World.cell?_alloc_new]; rfl
    have z0_3 : (w.alloc (.cells #[.float .f64 ma, .float .f64 ia, .float .f64 cx, .float .f64 cy] 28)).cell? ⟨w.heap.size, 3, none⟩ = some (.float .f64 cy) := by rw [World.cell?_alloc_new]; rfl
    have B0 : Bel w (w.alloc (.cells #[.float .f64 ma, .float .f64 ia, .float .f64 cx, .float .f64 cy] 28)) := bl_alloc (bl_refl w) _ _
    go_enter Try.func17, Try.ntmps17
    go_wp2_with (first | (go_at_call 10; refine (mChk_any _ _ _ _ _).mono ?_; rintro e w' ⟨rfl, hb⟩; rw [e]; (first | have B := bl_trans B hb | have B := bl_trans (by repeat (first | exact B | apply bl_drewN)) hb | have B := bl_trans (by repeat (first | exact B | apply bl_drewN | apply bl_drew | apply bl_alloc | refine bl_set ?_ (by simp <;> omega))) hb | have B := hb); (try clear hc hf hz); obtain ⟨hc, hf⟩ := bcell B; have hz := B.size; (try simp at hz)))
    have B0 := bl_trans B0 B
    replace z0_0 := keep B z0_0
    replace z0_1 := keep B z0_1
    replace z0_2 := keep B z0_2
    replace z0_3 := keep B z0_3
    clear hc hf hz
    refine wp_region_multiA 9 (fun i v => match i with | 0 => v = .pointer (some ⟨w.heap.size, 0, none⟩) | 1 => v = .float .f64 ma | 2 => ∃ r, OverR ma r ∧ v = .float .f64 r | 3 => v = .pointer (some ⟨w.heap.size, 1, none⟩) | 4 => v = .float .f64 ia | 5 => ∃ r, OverR ia r ∧ v = .float .f64 r | 6 => ∃ r, OverR ma r ∧ v = .float .f64 r | 7 => ∃ r, OverR ia r ∧ v = .float .f64 r | 8 => v = .int .i64 0 | _ => False) (fun i => match i with  | _ => none) ?A_wf (by kernel_rfl) (by kernel_rfl) ?hA_wf ?ha_wf ?hq_wf [] rfl ?ht_wf
    case hA_wf =>
      intro s
      simp only [putL, dstO, Act.put, List.getElem?_toArray, List.getElem?_cons_zero, List.getElem?_cons_succ, Option.bind_some, List.setIfInBounds_toArray, List.set_cons_zero, List.set_cons_succ, if_true]
      all_goals exact rfl
    case ha_wf =>
      intro i o ob hi ho hal
      rcases (show i = 0 ∨ i = 1 ∨ i = 2 ∨ i = 3 ∨ i = 4 ∨ i = 5 ∨ i = 6 ∨ i = 7 ∨ i = 8 by omega) with rfl | rfl | rfl | rfl | rfl | rfl | rfl | rfl | rfl
      · cases hal
      · cases hal
      · cases hal
      · cases hal
      · cases hal
      · cases hal
      · cases hal
      · cases hal
      · cases hal
    case hq_wf =>
      intro i o hi ho hal s hs W hb K hK
      have yz0_0 := keep hb z0_0; have yz0_1 := keep hb z0_1; have yz0_2 := keep hb z0_2; have yz0_3 := keep hb z0_3
      rcases (show i = 0 ∨ i = 1 ∨ i = 2 ∨ i = 3 ∨ i = 4 ∨ i = 5 ∨ i = 6 ∨ i = 7 ∨ i = 8 by omega) with rfl | rfl | rfl | rfl | rfl | rfl | rfl | rfl | rfl
      · cases ho
        simp only [Act.put, List.setIfInBounds_toArray, List.set_cons_zero, List.set_cons_succ] at hK
        clear hs
        go_simp
        all_goals (try go_wp2_with (first | (go_at_call 41; refine (over_any _ _).mono ?_; rintro e w' ⟨r, hR, rfl, hb1⟩)))
        all_goals first | exact hK.out _ _ ⟨_, hR, rfl⟩ hb1 | exact hK.out _ _ ⟨_, hR, rfl⟩ (bl_refl _) | exact hK.out _ _ rfl (bl_refl _) | exact hK.out _ _ rfl (by assumption) | exact hK.out _ _ (by assumption) (by assumption)
      · cases ho
        have e0 : s 0 = _ := hs 0 (by decide) (by kernel_rfl)
        simp only [e0] at hK ⊢
        simp only [Act.put, List.setIfInBounds_toArray, List.set_cons_zero, List.set_cons_succ] at hK
        clear hs
        go_simp
        all_goals (try go_wp2_with (first | (go_at_call 41; refine (over_any _ _).mono ?_; rintro e w' ⟨r, hR, rfl, hb1⟩)))
        all_goals first | exact hK.out _ _ ⟨_, hR, rfl⟩ hb1 | exact hK.out _ _ ⟨_, hR, rfl⟩ (bl_refl _) | exact hK.out _ _ rfl (bl_refl _) | exact hK.out _ _ rfl (by assumption) | exact hK.out _ _ (by assumption) (by assumption)
      · cases ho
        have e1 : s 1 = _ := hs 1 (by decide) (by kernel_rfl)
        simp only [e1] at hK ⊢
        simp only [Act.put, List.setIfInBounds_toArray, List.set_cons_zero, List.set_cons_succ] at hK
        clear hs
        go_simp
        all_goals (try go_wp2_with (first | (go_at_call 41; refine (over_any _ _).mono ?_; rintro e w' ⟨r, hR, rfl, hb1⟩)))
        all_goals first | exact hK.out _ _ ⟨_, hR, rfl⟩ hb1 | exact hK.out _ _ ⟨_, hR, rfl⟩ (bl_refl _) | exact hK.out _ _ rfl (bl_refl _) | exact hK.out _ _ rfl (by assumption) | exact hK.out _ _ (by assumption) (by assumption)
      · cases ho
        simp only [Act.put, List.setIfInBounds_toArray, List.set_cons_zero, List.set_cons_succ] at hK
        clear hs
        go_simp
        all_goals (try go_wp2_with (first | (go_at_call 41; refine (over_any _ _).mono ?_; rintro e w' ⟨r, hR, rfl, hb1⟩)))
        all_goals first | exact hK.out _ _ ⟨_, hR, rfl⟩ hb1 | exact hK.out _ _ ⟨_, hR, rfl⟩ (bl_refl _) | exact hK.out _ _ rfl (bl_refl _) | exact hK.out _ _ rfl (by assumption) | exact hK.out _ _ (by assumption) (by assumption)
      · cases ho
        have e3 : s 3 = _ := hs 3 (by decide) (by kernel_rfl)
        simp only [e3] at hK ⊢
        simp only [Act.put, List.setIfInBounds_toArray, List.set_cons_zero, List.set_cons_succ] at hK
        clear hs
        go_simp
        all_goals (try go_wp2_with (first | (go_at_call 41; refine (over_any _ _).mono ?_; rintro e w' ⟨r, hR, rfl, hb1⟩)))
        all_goals first | exact hK.out _ _ ⟨_, hR, rfl⟩ hb1 | exact hK.out _ _ ⟨_, hR, rfl⟩ (bl_refl _) | exact hK.out _ _ rfl (bl_refl _) | exact hK.out _ _ rfl (by assumption) | exact hK.out _ _ (by assumption) (by assumption)
      · cases ho
        have e4 : s 4 = _ := hs 4 (by decide) (by kernel_rfl)
        simp only [e4] at hK ⊢
        simp only [Act.put, List.setIfInBounds_toArray, List.set_cons_zero, List.set_cons_succ] at hK
        clear hs
        go_simp
        all_goals (try go_wp2_with (first | (go_at_call 41; refine (over_any _ _).mono ?_; rintro e w' ⟨r, hR, rfl, hb1⟩)))
        all_goals first | exact hK.out _ _ ⟨_, hR, rfl⟩ hb1 | exact hK.out _ _ ⟨_, hR, rfl⟩ (bl_refl _) | exact hK.out _ _ rfl (bl_refl _) | exact hK.out _ _ rfl (by assumption) | exact hK.out _ _ (by assumption) (by assumption)
      · cases ho
        obtain ⟨r, hR, e2⟩ := hs 2 (by decide) (by kernel_rfl)
        simp only [e2] at hK ⊢
        simp only [Act.put, List.setIfInBounds_toArray, List.set_cons_zero, List.set_cons_succ] at hK
        clear hs
        go_simp
        all_goals (try go_wp2_with (first | (go_at_call 41; refine (over_any _ _).mono ?_; rintro e w' ⟨r, hR, rfl, hb1⟩)))
        all_goals first | exact hK.out _ _ ⟨_, hR, rfl⟩ hb1 | exact hK.out _ _ ⟨_, hR, rfl⟩ (bl_refl _) | exact hK.out _ _ rfl (bl_refl _) | exact hK.out _ _ rfl (by assumption) | exact hK.out _ _ (by assumption) (by assumption)
      · cases ho
        obtain ⟨r, hR, e5⟩ := hs 5 (by decide) (by kernel_rfl)
        simp only [e5] at hK ⊢
        simp only [Act.put, List.setIfInBounds_toArray, List.set_cons_zero, List.set_cons_succ] at hK
        clear hs
        go_simp
        all_goals (try go_wp2_with (first | (go_at_call 41; refine (over_any _ _).mono ?_; rintro e w' ⟨r, hR, rfl, hb1⟩)))
        all_goals first | exact hK.out _ _ ⟨_, hR, rfl⟩ hb1 | exact hK.out _ _ ⟨_, hR, rfl⟩ (bl_refl _) | exact hK.out _ _ rfl (bl_refl _) | exact hK.out _ _ rfl (by assumption) | exact hK.out _ _ (by assumption) (by assumption)
      · cases ho
        simp only [Act.put, List.setIfInBounds_toArray, List.set_cons_zero, List.set_cons_succ] at hK
        clear hs
        go_simp
        all_goals (try go_wp2_with (first | (go_at_call 41; refine (over_any _ _).mono ?_; rintro e w' ⟨r, hR, rfl, hb1⟩)))
        all_goals first | exact hK.out _ _ ⟨_, hR, rfl⟩ hb1 | exact hK.out _ _ ⟨_, hR, rfl⟩ (bl_refl _) | exact hK.out _ _ rfl (bl_refl _) | exact hK.out _ _ rfl (by assumption) | exact hK.out _ _ (by assumption) (by assumption)
    case ht_wf =>
      intro s hs W hb hJ
      have e0 : s 0 = _ := hs 0 (by decide)
      have e1 : s 1 = _ := hs 1 (by decide)
      obtain ⟨_, _, e2⟩ := hs 2 (by decide)
      have e3 : s 3 = _ := hs 3 (by decide)
      have e4 : s 4 = _ := hs 4 (by decide)
      obtain ⟨_, _, e5⟩ := hs 5 (by decide)
      obtain ⟨ra, hRa, e6⟩ := hs 6 (by decide)
      obtain ⟨rb, hRb, e7⟩ := hs 7 (by decide)
      have e8 : s 8 = _ := hs 8 (by decide)
      simp only [e0, e1, e2, e3, e4, e5, e6, e7, e8]
      clear hs
      refine tail_end ?_
      go_wp2
      refine bodyPost_ret (v := .tuple #[.float .f64 ra, .float .f64 rb, .int .i64 0]) (by simp [results, Try.results17, go_sem] <;> (first | exact ⟨⟨rfl, rfl⟩, rfl⟩ | exact ⟨rfl, rfl, rfl, rfl⟩ | exact ⟨rfl, rfl, rfl⟩ | exact ⟨rfl, rfl⟩ | rfl)) rfl ⟨_, _, _, .inr ⟨h1, hRa, hRb, rfl⟩, rfl, bl_trans B0 hb⟩


end Go.Proofs.Ytoofbfjlgablkaa
