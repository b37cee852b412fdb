/-
  What each function of package poly answers, and what the reference of its chapter answers: one contract a function, for every float: the answer stands in the relation of its formula to what was given; of the memory that was there nothing has turned.
-/
import Derived.Test.YtoofbfjlgablkaaVec
import Derived.Test.YtoofbfjlgablkaaMd
import Derived.Below
import Derived.WalkKit
import Derived.WalkLawsBesides
import Derived.WalkSpells
import Derived.ProofKit
import Derived.OpenShut
import Derived.Deep.RegionHeld3
namespace Go.Proofs.Ytoofbfjlgablkaa
open Go.ChangeShapes Go.WideShapes Go.ChangeAt Go.RowKit
set_option linter.unusedVariables false
set_option linter.unusedSimpArgs false


set_option maxRecDepth 100000 in
set_option maxHeartbeats 4000000 in
theorem of_1 (V : Value) (xs ys : Nat → Nat) (r d : Nat) (w : World) (h : AnyS w V 1 xs ys) (hs0 : shE 1 r xs ys 1 = 0) (hd : densB d = true) : Calls Try.prog 14 #[.agg #[.int .u8 1, .float .f64 r, V], .float .f64 d] w fun e w' => ∃ m j x y f, OfA 1 r xs ys 1 d m j x y f ∧ e = .returned (.tuple #[.agg #[.float .f64 m, .float .f64 j, .float .f64 x, .float .f64 y], .int .i64 f]) ∧ Bel w w' := by
  have c1 := cmp_ge .f64
  have c2 := cmp_le .f64
  obtain ⟨a, cap, rfl, a2, a3, a4, a5, a6⟩ := id h
  have hA0 := h
  have d1 : leK .f64 0 d = true := by unfold densB at hd; simp only [Bool.and_eq_true] at hd; exact hd.1
  have d2 : leK .f64 d 4787326403894837248 = true := by unfold densB at hd; simp only [Bool.and_eq_true] at hd; exact hd.2
  rcases a6 with h0 | ⟨hp, b, off, rfl, sl⟩
  · exact absurd h0 (by decide)
  have lb := sl.lt (by decide)
  have z0_0 : (w.alloc (.cells #[.int .u8 1, .float .f64 r, .slice (some ⟨b, off, none⟩) 1 cap] 44)).cell? ⟨w.heap.size, 0, none⟩ = some (.int .u8 1) := by rw [World.cell?_alloc_new]; rfl
  replace z0_0 := up_alloc (o := .cells #[.float .f64 0, .float .f64 0, .float .f64 0, .float .f64 0] 28) z0_0
  have z0_1 : (w.alloc (.cells #[.int .u8 1, .float .f64 r, .slice (some ⟨b, off, none⟩) 1 cap] 44)).cell? ⟨w.heap.size, 1, none⟩ = some (.float .f64 r) := by rw [World.cell?_alloc_new]; rfl
  replace z0_1 := up_alloc (o := .cells #[.float .f64 0, .float .f64 0, .float .f64 0, .float .f64 0] 28) z0_1
  have z0_2 : (w.alloc (.cells #[.int .u8 1, .float .f64 r, .slice (some ⟨b, off, none⟩) 1 cap] 44)).cell? ⟨w.heap.size, 2, none⟩ = some (.slice (some ⟨b, off, none⟩) 1 cap) := by rw [World.cell?_alloc_new]; rfl
  replace z0_2 := up_alloc (o := .cells #[.float .f64 0, .float .f64 0, .float .f64 0, .float .f64 0] 28) z0_2
  have z1_0 : ((w.alloc (.cells #[.int .u8 1, .float .f64 r, .slice (some ⟨b, off, none⟩) 1 cap] 44)).alloc (.cells #[.float .f64 0, .float .f64 0, .float .f64 0, .float .f64 0] 28)).cell? ⟨w.heap.size + 1, 0, none⟩ = some (.float .f64 0) := by rw [← (show (w.alloc (.cells #[.int .u8 1, .float .f64 r, .slice (some ⟨b, off, none⟩) 1 cap] 44)).heap.size = w.heap.size + 1 by simp only [World.size_alloc]), World.cell?_alloc_new]; rfl
  have z1_1 : ((w.alloc (.cells #[.int .u8 1, .float .f64 r, .slice (some ⟨b, off, none⟩) 1 cap] 44)).alloc (.cells #[.float .f64 0, .float .f64 0, .float .f64 0, .float .f64 0] 28)).cell? ⟨w.heap.size + 1, 1, none⟩ = some (.float .f64 0) := by rw [← (show (w.alloc (.cells #[.int .u8 1, .float .f64 r, .slice (some ⟨b, off, none⟩) 1 cap] 44)).heap.size = w.heap.size + 1 by simp only [World.size_alloc]), World.cell?_alloc_new]; rfl
  have z1_2 : ((w.alloc (.cells #[.int .u8 1, .float .f64 r, .slice (some ⟨b, off, none⟩) 1 cap] 44)).alloc (.cells #[.float .f64 0, .float .f64 0, .float .f64 0, .float .f64 0] 28)).cell? ⟨w.heap.size + 1, 2, none⟩ = some (.float .f64 0) := by rw [← (show (w.alloc (.cells #[.int .u8 1, .float .f64 r, .slice (some ⟨b, off, none⟩) 1 cap] 44)).heap.size = w.heap.size + 1 by simp only [World.size_alloc]), World.cell?_alloc_new]; rfl
  have z1_3 : ((w.alloc (.cells #[.int .u8 1, .float .f64 r, .slice (some ⟨b, off, none⟩) 1 cap] 44)).alloc (.cells #[.float .f64 0, .float .f64 0, .float .f64 0, .float .f64 0] 28)).cell? ⟨w.heap.size + 1, 3, none⟩ = some (.float .f64 0) := by rw [← (show (w.alloc (.cells #[.int .u8 1, .float .f64 r, .slice (some ⟨b, off, none⟩) 1 cap] 44)).heap.size = w.heap.size + 1 by simp only [World.size_alloc]), World.cell?_alloc_new]; rfl
  have B0 : Bel w ((w.alloc (.cells #[.int .u8 1, .float .f64 r, .slice (some ⟨b, off, none⟩) 1 cap] 44)).alloc (.cells #[.float .f64 0, .float .f64 0, .float .f64 0, .float .f64 0] 28)) := bl_alloc (bl_alloc (bl_refl w) _ _) _ _
  have sl00 := keep B0 (sl 0 (by decide)).1
  have sl01 := keep B0 (sl 0 (by decide)).2
  simp only [Nat.zero_mul, Nat.add_zero, Nat.one_mul] at sl00 sl01
  go_enter Try.func14, Try.ntmps14
  go_wp2_with (first | (go_at_call 37; refine (check_any _ 1 xs ys 1 r _ (hA0.bel (bl_alloc (bl_alloc (bl_refl w) _ _) _ _))).mono ?_; rintro e w' ⟨rfl, hb⟩; rw [hs0]; (first | have B := bl_trans B hb | have B := bl_trans (by repeat (first | exact B | apply bl_drewN)) hb | have B := bl_trans (by repeat (first | exact B | apply bl_drewN | apply bl_drew | apply bl_alloc | refine bl_set ?_ (by simp <;> omega))) hb | have B := hb); (try clear hc hf hz); obtain ⟨hc, hf⟩ := bcell B; have hz := B.size; (try simp at hz)))
  replace z0_0 := keep B z0_0
  replace z0_1 := keep B z0_1
  replace z0_2 := keep B z0_2
  replace z1_0 := keep B z1_0
  replace z1_1 := keep B z1_1
  replace z1_2 := keep B z1_2
  replace z1_3 := keep B z1_3
  replace sl00 := keep B sl00
  replace sl01 := keep B sl01
  have B0 := bl_trans B0 B
  have fR : ∀ o, w'.frozen? ⟨w.heap.size + 1, o, none⟩ = false := fun o => (B0.2 _).trans (fresh_frozen (by omega))
  clear hc hf hz
  refine wp_region_ret 13 11 9 rfl (fun i v => match i with | 0 => v = .pointer (some ⟨w.heap.size, 2, none⟩) | 1 => v = .slice (some ⟨b, off, none⟩) 1 cap | 2 => v = .pointer (some ⟨b, off, none⟩) | 3 => v = .agg #[.float .f64 (xs 0), .float .f64 (ys 0)] | 4 => v = .pointer (some ⟨w.heap.size, 1, none⟩) | 5 => v = .float .f64 r | 6 => v = .float .f64 d | 7 => ∃ m j, CircR r d m j ∧ v = .agg #[.float .f64 m, .float .f64 j, .float .f64 (xs 0), .float .f64 (ys 0)] | 8 => ∃ m j x y e, CircA r d (xs 0) (ys 0) m j x y e ∧ v = .tuple #[.agg #[.float .f64 m, .float .f64 j, .float .f64 x, .float .f64 y], .int .i64 e] | 9 => ∃ m j x y e, CircA r d (xs 0) (ys 0) m j x y e ∧ v = .agg #[.float .f64 m, .float .f64 j, .float .f64 x, .float .f64 y] | 10 => ∃ m j x y e, CircA r d (xs 0) (ys 0) m j x y e ∧ v = .int .i64 (e : Int) | 12 => ∃ m j x y e, CircA r d (xs 0) (ys 0) m j x y e ∧ v = .int .i64 (e : Int) | _ => False) (put4 (w.heap.size + 1)) ?A_wo (by kernel_rfl) (by kernel_rfl) (by kernel_rfl) (by decide) (by decide) ?hA_wo ?hst_wo ?hq_wo ?ht_wo
  case hA_wo =>
    intro s
    simp only [putL, dstO, Act.put, List.getElem?_toArray, List.getElem?_cons_zero, List.getElem?_cons_succ, Option.bind_some, List.setIfInBounds_toArray, List.set_cons_zero, List.set_cons_succ, if_true]
    all_goals exact rfl
  case hst_wo =>
    intro o ho s hs W hb K hK
    cases ho
    have u0 := keep hb z1_0; have u1 := keep hb z1_1; have u2 := keep hb z1_2; have u3 := keep hb z1_3; have u9 := fun o => (hb.2 ⟨w.heap.size + 1, o, none⟩).trans (fR o)
    obtain ⟨m, j, x, y, e, hP, e9⟩ := hs 9 (by decide) (by kernel_rfl)
    simp only [e9] at hK ⊢
    clear hs
    go_simp
    exact hK.out
  case hq_wo =>
    intro i o hi hne ho s hs W hb K hK
    have u0 := once_keep4 hb z0_0 (by simp only; omega); have u1 := once_keep4 hb z0_1 (by simp only; omega); have u2 := once_keep4 hb z0_2 (by simp only; omega); have a00 := once_keep4 hb sl00 (by simp only; omega); have a01 := once_keep4 hb sl01 (by simp only; omega); have lB := World.block_lt_of_cell? _ _ a00; simp only at lB
    rcases (show i = 0 ∨ i = 1 ∨ i = 2 ∨ i = 3 ∨ i = 4 ∨ i = 5 ∨ i = 6 ∨ i = 7 ∨ i = 8 ∨ i = 9 ∨ i = 10 ∨ i = 11 ∨ i = 12 by omega) with rfl | rfl | rfl | rfl | rfl | rfl | rfl | rfl | rfl | rfl | rfl | rfl | rfl
    · cases ho
      simp only [Act.put, List.setIfInBounds_toArray, List.set_cons_zero, List.set_cons_succ] at hK
      clear hs hne
      go_simp
      all_goals (try go_wp2_with (first | (go_at_call 38; refine (circle_any _ _ _ _ _).mono ?_; rintro e w' ⟨m, j, hC, rfl, hb1⟩) | (go_at_call 25; refine (told_any _ _ _ _ _).mono ?_; rintro e w' ⟨m1, j1, x1, y1, e1, hTo, rfl, hb1⟩)))
      all_goals first | exact hK.out _ _ ⟨_, _, hC, rfl⟩ hb1 | exact hK.out _ _ ⟨_, _, _, _, _, ⟨_, _, hC, hTo⟩, rfl⟩ hb1 | exact hK.out _ _ ⟨_, _, _, _, _, hP, rfl⟩ (bl_refl _) | exact hK.out _ _ rfl (bl_refl _) | exact hK.out _ _ rfl (by assumption) | exact hK.out _ _ (by assumption) (by assumption)
    · cases ho
      have e0 : s 0 = _ := hs 0 (by decide) (by decide) (by kernel_rfl)
      simp only [e0] at hK ⊢
      simp only [Act.put, List.setIfInBounds_toArray, List.set_cons_zero, List.set_cons_succ] at hK
      clear hs hne
      go_simp
      all_goals (try go_wp2_with (first | (go_at_call 38; refine (circle_any _ _ _ _ _).mono ?_; rintro e w' ⟨m, j, hC, rfl, hb1⟩) | (go_at_call 25; refine (told_any _ _ _ _ _).mono ?_; rintro e w' ⟨m1, j1, x1, y1, e1, hTo, rfl, hb1⟩)))
      all_goals first | exact hK.out _ _ ⟨_, _, hC, rfl⟩ hb1 | exact hK.out _ _ ⟨_, _, _, _, _, ⟨_, _, hC, hTo⟩, rfl⟩ hb1 | exact hK.out _ _ ⟨_, _, _, _, _, hP, rfl⟩ (bl_refl _) | exact hK.out _ _ rfl (bl_refl _) | exact hK.out _ _ rfl (by assumption) | exact hK.out _ _ (by assumption) (by assumption)
    · cases ho
      have e1 : s 1 = _ := hs 1 (by decide) (by decide) (by kernel_rfl)
      simp only [e1] at hK ⊢
      simp only [Act.put, List.setIfInBounds_toArray, List.set_cons_zero, List.set_cons_succ] at hK
      clear hs hne
      go_simp
      all_goals (try go_wp2_with (first | (go_at_call 38; refine (circle_any _ _ _ _ _).mono ?_; rintro e w' ⟨m, j, hC, rfl, hb1⟩) | (go_at_call 25; refine (told_any _ _ _ _ _).mono ?_; rintro e w' ⟨m1, j1, x1, y1, e1, hTo, rfl, hb1⟩)))
      all_goals first | exact hK.out _ _ ⟨_, _, hC, rfl⟩ hb1 | exact hK.out _ _ ⟨_, _, _, _, _, ⟨_, _, hC, hTo⟩, rfl⟩ hb1 | exact hK.out _ _ ⟨_, _, _, _, _, hP, rfl⟩ (bl_refl _) | exact hK.out _ _ rfl (bl_refl _) | exact hK.out _ _ rfl (by assumption) | exact hK.out _ _ (by assumption) (by assumption)
    · cases ho
      have e2 : s 2 = _ := hs 2 (by decide) (by decide) (by kernel_rfl)
      simp only [e2] at hK ⊢
      simp only [Act.put, List.setIfInBounds_toArray, List.set_cons_zero, List.set_cons_succ] at hK
      clear hs hne
      go_simp
      all_goals (try go_wp2_with (first | (go_at_call 38; refine (circle_any _ _ _ _ _).mono ?_; rintro e w' ⟨m, j, hC, rfl, hb1⟩) | (go_at_call 25; refine (told_any _ _ _ _ _).mono ?_; rintro e w' ⟨m1, j1, x1, y1, e1, hTo, rfl, hb1⟩)))
      all_goals first | exact hK.out _ _ ⟨_, _, hC, rfl⟩ hb1 | exact hK.out _ _ ⟨_, _, _, _, _, ⟨_, _, hC, hTo⟩, rfl⟩ hb1 | exact hK.out _ _ ⟨_, _, _, _, _, hP, rfl⟩ (bl_refl _) | exact hK.out _ _ rfl (bl_refl _) | exact hK.out _ _ rfl (by assumption) | exact hK.out _ _ (by assumption) (by assumption)
    · cases ho
      simp only [Act.put, List.setIfInBounds_toArray, List.set_cons_zero, List.set_cons_succ] at hK
      clear hs hne
      go_simp
      all_goals (try go_wp2_with (first | (go_at_call 38; refine (circle_any _ _ _ _ _).mono ?_; rintro e w' ⟨m, j, hC, rfl, hb1⟩) | (go_at_call 25; refine (told_any _ _ _ _ _).mono ?_; rintro e w' ⟨m1, j1, x1, y1, e1, hTo, rfl, hb1⟩)))
      all_goals first | exact hK.out _ _ ⟨_, _, hC, rfl⟩ hb1 | exact hK.out _ _ ⟨_, _, _, _, _, ⟨_, _, hC, hTo⟩, rfl⟩ hb1 | exact hK.out _ _ ⟨_, _, _, _, _, hP, rfl⟩ (bl_refl _) | exact hK.out _ _ rfl (bl_refl _) | exact hK.out _ _ rfl (by assumption) | exact hK.out _ _ (by assumption) (by assumption)
    · cases ho
      have e4 : s 4 = _ := hs 4 (by decide) (by decide) (by kernel_rfl)
      simp only [e4] at hK ⊢
      simp only [Act.put, List.setIfInBounds_toArray, List.set_cons_zero, List.set_cons_succ] at hK
      clear hs hne
      go_simp
      all_goals (try go_wp2_with (first | (go_at_call 38; refine (circle_any _ _ _ _ _).mono ?_; rintro e w' ⟨m, j, hC, rfl, hb1⟩) | (go_at_call 25; refine (told_any _ _ _ _ _).mono ?_; rintro e w' ⟨m1, j1, x1, y1, e1, hTo, rfl, hb1⟩)))
      all_goals first | exact hK.out _ _ ⟨_, _, hC, rfl⟩ hb1 | exact hK.out _ _ ⟨_, _, _, _, _, ⟨_, _, hC, hTo⟩, rfl⟩ hb1 | exact hK.out _ _ ⟨_, _, _, _, _, hP, rfl⟩ (bl_refl _) | exact hK.out _ _ rfl (bl_refl _) | exact hK.out _ _ rfl (by assumption) | exact hK.out _ _ (by assumption) (by assumption)
    · cases ho
      simp only [Act.put, List.setIfInBounds_toArray, List.set_cons_zero, List.set_cons_succ] at hK
      clear hs hne
      go_simp
      all_goals (try go_wp2_with (first | (go_at_call 38; refine (circle_any _ _ _ _ _).mono ?_; rintro e w' ⟨m, j, hC, rfl, hb1⟩) | (go_at_call 25; refine (told_any _ _ _ _ _).mono ?_; rintro e w' ⟨m1, j1, x1, y1, e1, hTo, rfl, hb1⟩)))
      all_goals first | exact hK.out _ _ ⟨_, _, hC, rfl⟩ hb1 | exact hK.out _ _ ⟨_, _, _, _, _, ⟨_, _, hC, hTo⟩, rfl⟩ hb1 | exact hK.out _ _ ⟨_, _, _, _, _, hP, rfl⟩ (bl_refl _) | exact hK.out _ _ rfl (bl_refl _) | exact hK.out _ _ rfl (by assumption) | exact hK.out _ _ (by assumption) (by assumption)
    · cases ho
      have e3 : s 3 = _ := hs 3 (by decide) (by decide) (by kernel_rfl)
      have e5 : s 5 = _ := hs 5 (by decide) (by decide) (by kernel_rfl)
      have e6 : s 6 = _ := hs 6 (by decide) (by decide) (by kernel_rfl)
      simp only [e3, e5, e6] at hK ⊢
      simp only [Act.put, List.setIfInBounds_toArray, List.set_cons_zero, List.set_cons_succ] at hK
      clear hs hne
      go_simp
      all_goals (try go_wp2_with (first | (go_at_call 38; refine (circle_any _ _ _ _ _).mono ?_; rintro e w' ⟨m, j, hC, rfl, hb1⟩) | (go_at_call 25; refine (told_any _ _ _ _ _).mono ?_; rintro e w' ⟨m1, j1, x1, y1, e1, hTo, rfl, hb1⟩)))
      all_goals first | exact hK.out _ _ ⟨_, _, hC, rfl⟩ hb1 | exact hK.out _ _ ⟨_, _, _, _, _, ⟨_, _, hC, hTo⟩, rfl⟩ hb1 | exact hK.out _ _ ⟨_, _, _, _, _, hP, rfl⟩ (bl_refl _) | exact hK.out _ _ rfl (bl_refl _) | exact hK.out _ _ rfl (by assumption) | exact hK.out _ _ (by assumption) (by assumption)
    · cases ho
      obtain ⟨m, j, hC, e7⟩ := hs 7 (by decide) (by decide) (by kernel_rfl)
      simp only [e7] at hK ⊢
      simp only [Act.put, List.setIfInBounds_toArray, List.set_cons_zero, List.set_cons_succ] at hK
      clear hs hne
      go_simp
      all_goals (try go_wp2_with (first | (go_at_call 38; refine (circle_any _ _ _ _ _).mono ?_; rintro e w' ⟨m, j, hC, rfl, hb1⟩) | (go_at_call 25; refine (told_any _ _ _ _ _).mono ?_; rintro e w' ⟨m1, j1, x1, y1, e1, hTo, rfl, hb1⟩)))
      all_goals first | exact hK.out _ _ ⟨_, _, hC, rfl⟩ hb1 | exact hK.out _ _ ⟨_, _, _, _, _, ⟨_, _, hC, hTo⟩, rfl⟩ hb1 | exact hK.out _ _ ⟨_, _, _, _, _, hP, rfl⟩ (bl_refl _) | exact hK.out _ _ rfl (bl_refl _) | exact hK.out _ _ rfl (by assumption) | exact hK.out _ _ (by assumption) (by assumption)
    · cases ho
      obtain ⟨m, j, x, y, e, hP, e8⟩ := hs 8 (by decide) (by decide) (by kernel_rfl)
      simp only [e8] at hK ⊢
      simp only [Act.put, List.setIfInBounds_toArray, List.set_cons_zero, List.set_cons_succ] at hK
      clear hs hne
      go_simp
      all_goals (try go_wp2_with (first | (go_at_call 38; refine (circle_any _ _ _ _ _).mono ?_; rintro e w' ⟨m, j, hC, rfl, hb1⟩) | (go_at_call 25; refine (told_any _ _ _ _ _).mono ?_; rintro e w' ⟨m1, j1, x1, y1, e1, hTo, rfl, hb1⟩)))
      all_goals first | exact hK.out _ _ ⟨_, _, hC, rfl⟩ hb1 | exact hK.out _ _ ⟨_, _, _, _, _, ⟨_, _, hC, hTo⟩, rfl⟩ hb1 | exact hK.out _ _ ⟨_, _, _, _, _, hP, rfl⟩ (bl_refl _) | exact hK.out _ _ rfl (bl_refl _) | exact hK.out _ _ rfl (by assumption) | exact hK.out _ _ (by assumption) (by assumption)
    · cases ho
      obtain ⟨m, j, x, y, e, hP, e8⟩ := hs 8 (by decide) (by decide) (by kernel_rfl)
      simp only [e8] at hK ⊢
      simp only [Act.put, List.setIfInBounds_toArray, List.set_cons_zero, List.set_cons_succ] at hK
      clear hs hne
      go_simp
      all_goals (try go_wp2_with (first | (go_at_call 38; refine (circle_any _ _ _ _ _).mono ?_; rintro e w' ⟨m, j, hC, rfl, hb1⟩) | (go_at_call 25; refine (told_any _ _ _ _ _).mono ?_; rintro e w' ⟨m1, j1, x1, y1, e1, hTo, rfl, hb1⟩)))
      all_goals first | exact hK.out _ _ ⟨_, _, hC, rfl⟩ hb1 | exact hK.out _ _ ⟨_, _, _, _, _, ⟨_, _, hC, hTo⟩, rfl⟩ hb1 | exact hK.out _ _ ⟨_, _, _, _, _, hP, rfl⟩ (bl_refl _) | exact hK.out _ _ rfl (bl_refl _) | exact hK.out _ _ rfl (by assumption) | exact hK.out _ _ (by assumption) (by assumption)
    · exact absurd rfl hne
    · cases ho
      obtain ⟨m, j, x, y, e, hP, e10⟩ := hs 10 (by decide) (by decide) (by kernel_rfl)
      simp only [e10] at hK ⊢
      simp only [Act.put, List.setIfInBounds_toArray, List.set_cons_zero, List.set_cons_succ] at hK
      clear hs hne
      go_simp
      all_goals (try go_wp2_with (first | (go_at_call 38; refine (circle_any _ _ _ _ _).mono ?_; rintro e w' ⟨m, j, hC, rfl, hb1⟩) | (go_at_call 25; refine (told_any _ _ _ _ _).mono ?_; rintro e w' ⟨m1, j1, x1, y1, e1, hTo, rfl, hb1⟩)))
      all_goals first | exact hK.out _ _ ⟨_, _, hC, rfl⟩ hb1 | exact hK.out _ _ ⟨_, _, _, _, _, ⟨_, _, hC, hTo⟩, rfl⟩ hb1 | exact hK.out _ _ ⟨_, _, _, _, _, hP, rfl⟩ (bl_refl _) | exact hK.out _ _ rfl (bl_refl _) | exact hK.out _ _ rfl (by assumption) | exact hK.out _ _ (by assumption) (by assumption)
  case ht_wo =>
    intro s hs W0 W hb0 hb
    have e0 : s 0 = _ := hs 0 (by decide) (by decide)
    have e1 : s 1 = _ := hs 1 (by decide) (by decide)
    have e2 : s 2 = _ := hs 2 (by decide) (by decide)
    have e3 : s 3 = _ := hs 3 (by decide) (by decide)
    have e4 : s 4 = _ := hs 4 (by decide) (by decide)
    have e5 : s 5 = _ := hs 5 (by decide) (by decide)
    have e6 : s 6 = _ := hs 6 (by decide) (by decide)
    obtain ⟨_, _, _, e7⟩ := hs 7 (by decide) (by decide)
    obtain ⟨_, _, _, _, _, _, e8⟩ := hs 8 (by decide) (by decide)
    obtain ⟨m, j, x, y, ee, hP, e9⟩ := hs 9 (by decide) (by decide)
    obtain ⟨_, _, _, _, _, _, e10⟩ := hs 10 (by decide) (by decide)
    obtain ⟨m2, j2, x2, y2, ff, hP2, e12⟩ := hs 12 (by decide) (by decide)
    simp only [e0, e1, e2, e3, e4, e5, e6, e7, e8, e9, e10, e12]
    rw [e9] at hb
    clear hs e0 e1 e2 e3 e4 e5 e6 e7 e8 e9 e10 e12
    obtain ⟨_, _, _, _, rfl⟩ := hP.sm hP2
    obtain ⟨R0, R1, R2, R3⟩ := put4_at (v := .agg #[.float .f64 m, .float .f64 j, .float .f64 x, .float .f64 y]) (keep hb0 z1_0) (keep hb0 z1_1) (keep hb0 z1_2) (keep hb0 z1_3)
    replace R0 := keep hb R0
    replace R1 := keep hb R1
    replace R2 := keep hb R2
    replace R3 := keep hb R3
    simp only [cellAt] at R0 R1 R2 R3
    go_wp2
    refine bodyPost_ret (v := .tuple #[.agg #[.float .f64 m, .float .f64 j, .float .f64 x, .float .f64 y], .int .i64 ee]) (by simp [R0, R1, R2, R3, results, Try.results14, go_sem] <;> (first | exact ⟨⟨rfl, rfl, rfl, rfl⟩, rfl⟩ | exact ⟨rfl, rfl, rfl, rfl, rfl⟩ | exact ⟨rfl, rfl⟩ | rfl)) rfl ⟨_, _, _, _, _, ?_, rfl, bl_trans (put4_bel (bl_trans B0 hb0) (by omega)) hb⟩
    unfold OfA
    rw [if_pos hs0, if_pos hd, if_pos rfl]
    exact hP

set_option maxRecDepth 100000 in
set_option maxHeartbeats 4000000 in
theorem of_2 (V : Value) (xs ys : Nat → Nat) (r d : Nat) (w : World) (h : AnyS w V 2 xs ys) (hs0 : shE 2 r xs ys 2 = 0) (hd : densB d = true) : Calls Try.prog 14 #[.agg #[.int .u8 2, .float .f64 r, V], .float .f64 d] w fun e w' => ∃ m j x y f, OfA 2 r xs ys 2 d m j x y f ∧ e = .returned (.tuple #[.agg #[.float .f64 m, .float .f64 j, .float .f64 x, .float .f64 y], .int .i64 f]) ∧ Bel w w' := by
  have c1 := cmp_ge .f64
  have c2 := cmp_le .f64
  obtain ⟨a, cap, rfl, a2, a3, a4, a5, a6⟩ := id h
  have hA0 := h
  have d1 : leK .f64 0 d = true := by unfold densB at hd; simp only [Bool.and_eq_true] at hd; exact hd.1
  have d2 : leK .f64 d 4787326403894837248 = true := by unfold densB at hd; simp only [Bool.and_eq_true] at hd; exact hd.2
  rcases a6 with h0 | ⟨hp, b, off, rfl, sl⟩
  · exact absurd h0 (by decide)
  have lb := sl.lt (by decide)
  have z0_0 : (w.alloc (.cells #[.int .u8 2, .float .f64 r, .slice (some ⟨b, off, none⟩) 2 cap] 44)).cell? ⟨w.heap.size, 0, none⟩ = some (.int .u8 2) := by rw [World.cell?_alloc_new]; rfl
  replace z0_0 := up_alloc (o := .cells #[.float .f64 0, .float .f64 0, .float .f64 0, .float .f64 0] 28) z0_0
  have z0_1 : (w.alloc (.cells #[.int .u8 2, .float .f64 r, .slice (some ⟨b, off, none⟩) 2 cap] 44)).cell? ⟨w.heap.size, 1, none⟩ = some (.float .f64 r) := by rw [World.cell?_alloc_new]; rfl
  replace z0_1 := up_alloc (o := .cells #[.float .f64 0, .float .f64 0, .float .f64 0, .float .f64 0] 28) z0_1
  have z0_2 : (w.alloc (.cells #[.int .u8 2, .float .f64 r, .slice (some ⟨b, off, none⟩) 2 cap] 44)).cell? ⟨w.heap.size, 2, none⟩ = some (.slice (some ⟨b, off, none⟩) 2 cap) := by rw [World.cell?_alloc_new]; rfl
  replace z0_2 := up_alloc (o := .cells #[.float .f64 0, .float .f64 0, .float .f64 0, .float .f64 0] 28) z0_2
  have z1_0 : ((w.alloc (.cells #[.int .u8 2, .float .f64 r, .slice (some ⟨b, off, none⟩) 2 cap] 44)).alloc (.cells #[.float .f64 0, .float .f64 0, .float .f64 0, .float .f64 0] 28)).cell? ⟨w.heap.size + 1, 0, none⟩ = some (.float .f64 0) := by rw [← (show (w.alloc (.cells #[.int .u8 2, .float .f64 r, .slice (some ⟨b, off, none⟩) 2 cap] 44)).heap.size = w.heap.size + 1 by simp only [World.size_alloc]), World.cell?_alloc_new]; rfl
  have z1_1 : ((w.alloc (.cells #[.int .u8 2, .float .f64 r, .slice (some ⟨b, off, none⟩) 2 cap] 44)).alloc (.cells #[.float .f64 0, .float .f64 0, .float .f64 0, .float .f64 0] 28)).cell? ⟨w.heap.size + 1, 1, none⟩ = some (.float .f64 0) := by rw [← (show (w.alloc (.cells #[.int .u8 2, .float .f64 r, .slice (some ⟨b, off, none⟩) 2 cap] 44)).heap.size = w.heap.size + 1 by simp only [World.size_alloc]), World.cell?_alloc_new]; rfl
  have z1_2 : ((w.alloc (.cells #[.int .u8 2, .float .f64 r, .slice (some ⟨b, off, none⟩) 2 cap] 44)).alloc (.cells #[.float .f64 0, .float .f64 0, .float .f64 0, .float .f64 0] 28)).cell? ⟨w.heap.size + 1, 2, none⟩ = some (.float .f64 0) := by rw [← (show (w.alloc (.cells #[.int .u8 2, .float .f64 r, .slice (some ⟨b, off, none⟩) 2 cap] 44)).heap.size = w.heap.size + 1 by simp only [World.size_alloc]), World.cell?_alloc_new]; rfl
  have z1_3 : ((w.alloc (.cells #[.int .u8 2, .float .f64 r, .slice (some ⟨b, off, none⟩) 2 cap] 44)).alloc (.cells #[.float .f64 0, .float .f64 0, .float .f64 0, .float .f64 0] 28)).cell? ⟨w.heap.size + 1, 3, none⟩ = some (.float .f64 0) := by rw [← (show (w.alloc (.cells #[.int .u8 2, .float .f64 r, .slice (some ⟨b, off, none⟩) 2 cap] 44)).heap.size = w.heap.size + 1 by simp only [World.size_alloc]), World.cell?_alloc_new]; rfl
  have B0 : Bel w ((w.alloc (.cells #[.int .u8 2, .float .f64 r, .slice (some ⟨b, off, none⟩) 2 cap] 44)).alloc (.cells #[.float .f64 0, .float .f64 0, .float .f64 0, .float .f64 0] 28)) := bl_alloc (bl_alloc (bl_refl w) _ _) _ _
  have sl00 := keep B0 (sl 0 (by decide)).1
  have sl01 := keep B0 (sl 0 (by decide)).2
  have sl10 := keep B0 (sl 1 (by decide)).1
  have sl11 := keep B0 (sl 1 (by decide)).2
  simp only [Nat.zero_mul, Nat.add_zero, Nat.one_mul] at sl00 sl01 sl10 sl11
  go_enter Try.func14, Try.ntmps14
  go_wp2_with (first | (go_at_call 37; refine (check_any _ 2 xs ys 2 r _ (hA0.bel (bl_alloc (bl_alloc (bl_refl w) _ _) _ _))).mono ?_; rintro e w' ⟨rfl, hb⟩; rw [hs0]; (first | have B := bl_trans B hb | have B := bl_trans (by repeat (first | exact B | apply bl_drewN)) hb | have B := bl_trans (by repeat (first | exact B | apply bl_drewN | apply bl_drew | apply bl_alloc | refine bl_set ?_ (by simp <;> omega))) hb | have B := hb); (try clear hc hf hz); obtain ⟨hc, hf⟩ := bcell B; have hz := B.size; (try simp at hz)))
  replace z0_0 := keep B z0_0
  replace z0_1 := keep B z0_1
  replace z0_2 := keep B z0_2
  replace z1_0 := keep B z1_0
  replace z1_1 := keep B z1_1
  replace z1_2 := keep B z1_2
  replace z1_3 := keep B z1_3
  replace sl00 := keep B sl00
  replace sl01 := keep B sl01
  replace sl10 := keep B sl10
  replace sl11 := keep B sl11
  have B0 := bl_trans B0 B
  have fR : ∀ o, w'.frozen? ⟨w.heap.size + 1, o, none⟩ = false := fun o => (B0.2 _).trans (fresh_frozen (by omega))
  clear hc hf hz
  refine wp_region_ret 17 15 13 rfl (fun i v => match i with | 0 => v = .pointer (some ⟨w.heap.size, 2, none⟩) | 1 => v = .slice (some ⟨b, off, none⟩) 2 cap | 2 => v = .pointer (some ⟨b, off, none⟩) | 3 => v = .agg #[.float .f64 (xs 0), .float .f64 (ys 0)] | 4 => v = .pointer (some ⟨w.heap.size, 2, none⟩) | 5 => v = .slice (some ⟨b, off, none⟩) 2 cap | 6 => v = .pointer (some ⟨b, off + 2, none⟩) | 7 => v = .agg #[.float .f64 (xs 1), .float .f64 (ys 1)] | 8 => v = .pointer (some ⟨w.heap.size, 1, none⟩) | 9 => v = .float .f64 r | 10 => v = .float .f64 d | 11 => ∃ m j x y, CapsR (xs 0) (ys 0) (xs 1) (ys 1) r d m j x y ∧ v = .agg #[.float .f64 m, .float .f64 j, .float .f64 x, .float .f64 y] | 12 => ∃ m j x y e, CapA (xs 0) (ys 0) (xs 1) (ys 1) r d m j x y e ∧ v = .tuple #[.agg #[.float .f64 m, .float .f64 j, .float .f64 x, .float .f64 y], .int .i64 e] | 13 => ∃ m j x y e, CapA (xs 0) (ys 0) (xs 1) (ys 1) r d m j x y e ∧ v = .agg #[.float .f64 m, .float .f64 j, .float .f64 x, .float .f64 y] | 14 => ∃ m j x y e, CapA (xs 0) (ys 0) (xs 1) (ys 1) r d m j x y e ∧ v = .int .i64 (e : Int) | 16 => ∃ m j x y e, CapA (xs 0) (ys 0) (xs 1) (ys 1) r d m j x y e ∧ v = .int .i64 (e : Int) | _ => False) (put4 (w.heap.size + 1)) ?A_wo (by kernel_rfl) (by kernel_rfl) (by kernel_rfl) (by decide) (by decide) ?hA_wo ?hst_wo ?hq_wo ?ht_wo
  case hA_wo =>
    intro s
    simp only [putL, dstO, Act.put, List.getElem?_toArray, List.getElem?_cons_zero, List.getElem?_cons_succ, Option.bind_some, List.setIfInBounds_toArray, List.set_cons_zero, List.set_cons_succ, if_true]
    all_goals exact rfl
  case hst_wo =>
    intro o ho s hs W hb K hK
    cases ho
    have u0 := keep hb z1_0; have u1 := keep hb z1_1; have u2 := keep hb z1_2; have u3 := keep hb z1_3; have u9 := fun o => (hb.2 ⟨w.heap.size + 1, o, none⟩).trans (fR o)
    obtain ⟨m, j, x, y, e, hP, e13⟩ := hs 13 (by decide) (by kernel_rfl)
    simp only [e13] at hK ⊢
    clear hs
    go_simp
    exact hK.out
  case hq_wo =>
    intro i o hi hne ho s hs W hb K hK
    have u0 := once_keep4 hb z0_0 (by simp only; omega); have u1 := once_keep4 hb z0_1 (by simp only; omega); have u2 := once_keep4 hb z0_2 (by simp only; omega); have a00 := once_keep4 hb sl00 (by simp only; omega); have a01 := once_keep4 hb sl01 (by simp only; omega); have a10 := once_keep4 hb sl10 (by simp only; omega); have a11 := once_keep4 hb sl11 (by simp only; omega); have lB := World.block_lt_of_cell? _ _ a00; simp only at lB
    rcases (show i = 0 ∨ i = 1 ∨ i = 2 ∨ i = 3 ∨ i = 4 ∨ i = 5 ∨ i = 6 ∨ i = 7 ∨ i = 8 ∨ i = 9 ∨ i = 10 ∨ i = 11 ∨ i = 12 ∨ i = 13 ∨ i = 14 ∨ i = 15 ∨ i = 16 by omega) with rfl | rfl | rfl | rfl | rfl | rfl | rfl | rfl | rfl | rfl | rfl | rfl | rfl | rfl | rfl | rfl | rfl
    · cases ho
      simp only [Act.put, List.setIfInBounds_toArray, List.set_cons_zero, List.set_cons_succ] at hK
      clear hs hne
      go_simp
      all_goals (try go_wp2_with (first | (go_at_call 39; refine (capsule_any _ _ _ _ _ _ _).mono ?_; rintro e w' ⟨m, j, x, y, hC, rfl, hb1⟩) | (go_at_call 25; refine (told_any _ _ _ _ _).mono ?_; rintro e w' ⟨m1, j1, x1, y1, e1, hTo, rfl, hb1⟩)))
      all_goals first | exact hK.out _ _ ⟨_, _, _, _, hC, rfl⟩ hb1 | exact hK.out _ _ ⟨_, _, _, _, _, ⟨_, _, _, _, hC, hTo⟩, rfl⟩ hb1 | exact hK.out _ _ ⟨_, _, _, _, _, hP, rfl⟩ (bl_refl _) | exact hK.out _ _ rfl (bl_refl _) | exact hK.out _ _ rfl (by assumption) | exact hK.out _ _ (by assumption) (by assumption)
    · cases ho
      have e0 : s 0 = _ := hs 0 (by decide) (by decide) (by kernel_rfl)
      simp only [e0] at hK ⊢
      simp only [Act.put, List.setIfInBounds_toArray, List.set_cons_zero, List.set_cons_succ] at hK
      clear hs hne
      go_simp
      all_goals (try go_wp2_with (first | (go_at_call 39; refine (capsule_any _ _ _ _ _ _ _).mono ?_; rintro e w' ⟨m, j, x, y, hC, rfl, hb1⟩) | (go_at_call 25; refine (told_any _ _ _ _ _).mono ?_; rintro e w' ⟨m1, j1, x1, y1, e1, hTo, rfl, hb1⟩)))
      all_goals first | exact hK.out _ _ ⟨_, _, _, _, hC, rfl⟩ hb1 | exact hK.out _ _ ⟨_, _, _, _, _, ⟨_, _, _, _, hC, hTo⟩, rfl⟩ hb1 | exact hK.out _ _ ⟨_, _, _, _, _, hP, rfl⟩ (bl_refl _) | exact hK.out _ _ rfl (bl_refl _) | exact hK.out _ _ rfl (by assumption) | exact hK.out _ _ (by assumption) (by assumption)
    · cases ho
      have e1 : s 1 = _ := hs 1 (by decide) (by decide) (by kernel_rfl)
      simp only [e1] at hK ⊢
      simp only [Act.put, List.setIfInBounds_toArray, List.set_cons_zero, List.set_cons_succ] at hK
      clear hs hne
      go_simp
      all_goals (try go_wp2_with (first | (go_at_call 39; refine (capsule_any _ _ _ _ _ _ _).mono ?_; rintro e w' ⟨m, j, x, y, hC, rfl, hb1⟩) | (go_at_call 25; refine (told_any _ _ _ _ _).mono ?_; rintro e w' ⟨m1, j1, x1, y1, e1, hTo, rfl, hb1⟩)))
      all_goals first | exact hK.out _ _ ⟨_, _, _, _, hC, rfl⟩ hb1 | exact hK.out _ _ ⟨_, _, _, _, _, ⟨_, _, _, _, hC, hTo⟩, rfl⟩ hb1 | exact hK.out _ _ ⟨_, _, _, _, _, hP, rfl⟩ (bl_refl _) | exact hK.out _ _ rfl (bl_refl _) | exact hK.out _ _ rfl (by assumption) | exact hK.out _ _ (by assumption) (by assumption)
    · cases ho
      have e2 : s 2 = _ := hs 2 (by decide) (by decide) (by kernel_rfl)
      simp only [e2] at hK ⊢
      simp only [Act.put, List.setIfInBounds_toArray, List.set_cons_zero, List.set_cons_succ] at hK
      clear hs hne
      go_simp
      all_goals (try go_wp2_with (first | (go_at_call 39; refine (capsule_any _ _ _ _ _ _ _).mono ?_; rintro e w' ⟨m, j, x, y, hC, rfl, hb1⟩) | (go_at_call 25; refine (told_any _ _ _ _ _).mono ?_; rintro e w' ⟨m1, j1, x1, y1, e1, hTo, rfl, hb1⟩)))
      all_goals first | exact hK.out _ _ ⟨_, _, _, _, hC, rfl⟩ hb1 | exact hK.out _ _ ⟨_, _, _, _, _, ⟨_, _, _, _, hC, hTo⟩, rfl⟩ hb1 | exact hK.out _ _ ⟨_, _, _, _, _, hP, rfl⟩ (bl_refl _) | exact hK.out _ _ rfl (bl_refl _) | exact hK.out _ _ rfl (by assumption) | exact hK.out _ _ (by assumption) (by assumption)
    · cases ho
      simp only [Act.put, List.setIfInBounds_toArray, List.set_cons_zero, List.set_cons_succ] at hK
      clear hs hne
      go_simp
      all_goals (try go_wp2_with (first | (go_at_call 39; refine (capsule_any _ _ _ _ _ _ _).mono ?_; rintro e w' ⟨m, j, x, y, hC, rfl, hb1⟩) | (go_at_call 25; refine (told_any _ _ _ _ _).mono ?_; rintro e w' ⟨m1, j1, x1, y1, e1, hTo, rfl, hb1⟩)))
      all_goals first | exact hK.out _ _ ⟨_, _, _, _, hC, rfl⟩ hb1 | exact hK.out _ _ ⟨_, _, _, _, _, ⟨_, _, _, _, hC, hTo⟩, rfl⟩ hb1 | exact hK.out _ _ ⟨_, _, _, _, _, hP, rfl⟩ (bl_refl _) | exact hK.out _ _ rfl (bl_refl _) | exact hK.out _ _ rfl (by assumption) | exact hK.out _ _ (by assumption) (by assumption)
    · cases ho
      have e4 : s 4 = _ := hs 4 (by decide) (by decide) (by kernel_rfl)
      simp only [e4] at hK ⊢
      simp only [Act.put, List.setIfInBounds_toArray, List.set_cons_zero, List.set_cons_succ] at hK
      clear hs hne
      go_simp
      all_goals (try go_wp2_with (first | (go_at_call 39; refine (capsule_any _ _ _ _ _ _ _).mono ?_; rintro e w' ⟨m, j, x, y, hC, rfl, hb1⟩) | (go_at_call 25; refine (told_any _ _ _ _ _).mono ?_; rintro e w' ⟨m1, j1, x1, y1, e1, hTo, rfl, hb1⟩)))
      all_goals first | exact hK.out _ _ ⟨_, _, _, _, hC, rfl⟩ hb1 | exact hK.out _ _ ⟨_, _, _, _, _, ⟨_, _, _, _, hC, hTo⟩, rfl⟩ hb1 | exact hK.out _ _ ⟨_, _, _, _, _, hP, rfl⟩ (bl_refl _) | exact hK.out _ _ rfl (bl_refl _) | exact hK.out _ _ rfl (by assumption) | exact hK.out _ _ (by assumption) (by assumption)
    · cases ho
      have e5 : s 5 = _ := hs 5 (by decide) (by decide) (by kernel_rfl)
      simp only [e5] at hK ⊢
      simp only [Act.put, List.setIfInBounds_toArray, List.set_cons_zero, List.set_cons_succ] at hK
      clear hs hne
      go_simp
      all_goals (try go_wp2_with (first | (go_at_call 39; refine (capsule_any _ _ _ _ _ _ _).mono ?_; rintro e w' ⟨m, j, x, y, hC, rfl, hb1⟩) | (go_at_call 25; refine (told_any _ _ _ _ _).mono ?_; rintro e w' ⟨m1, j1, x1, y1, e1, hTo, rfl, hb1⟩)))
      all_goals first | exact hK.out _ _ ⟨_, _, _, _, hC, rfl⟩ hb1 | exact hK.out _ _ ⟨_, _, _, _, _, ⟨_, _, _, _, hC, hTo⟩, rfl⟩ hb1 | exact hK.out _ _ ⟨_, _, _, _, _, hP, rfl⟩ (bl_refl _) | exact hK.out _ _ rfl (bl_refl _) | exact hK.out _ _ rfl (by assumption) | exact hK.out _ _ (by assumption) (by assumption)
    · cases ho
      have e6 : s 6 = _ := hs 6 (by decide) (by decide) (by kernel_rfl)
      simp only [e6] at hK ⊢
      simp only [Act.put, List.setIfInBounds_toArray, List.set_cons_zero, List.set_cons_succ] at hK
      clear hs hne
      go_simp
      all_goals (try go_wp2_with (first | (go_at_call 39; refine (capsule_any _ _ _ _ _ _ _).mono ?_; rintro e w' ⟨m, j, x, y, hC, rfl, hb1⟩) | (go_at_call 25; refine (told_any _ _ _ _ _).mono ?_; rintro e w' ⟨m1, j1, x1, y1, e1, hTo, rfl, hb1⟩)))
      all_goals first | exact hK.out _ _ ⟨_, _, _, _, hC, rfl⟩ hb1 | exact hK.out _ _ ⟨_, _, _, _, _, ⟨_, _, _, _, hC, hTo⟩, rfl⟩ hb1 | exact hK.out _ _ ⟨_, _, _, _, _, hP, rfl⟩ (bl_refl _) | exact hK.out _ _ rfl (bl_refl _) | exact hK.out _ _ rfl (by assumption) | exact hK.out _ _ (by assumption) (by assumption)
    · cases ho
      simp only [Act.put, List.setIfInBounds_toArray, List.set_cons_zero, List.set_cons_succ] at hK
      clear hs hne
      go_simp
      all_goals (try go_wp2_with (first | (go_at_call 39; refine (capsule_any _ _ _ _ _ _ _).mono ?_; rintro e w' ⟨m, j, x, y, hC, rfl, hb1⟩) | (go_at_call 25; refine (told_any _ _ _ _ _).mono ?_; rintro e w' ⟨m1, j1, x1, y1, e1, hTo, rfl, hb1⟩)))
      all_goals first | exact hK.out _ _ ⟨_, _, _, _, hC, rfl⟩ hb1 | exact hK.out _ _ ⟨_, _, _, _, _, ⟨_, _, _, _, hC, hTo⟩, rfl⟩ hb1 | exact hK.out _ _ ⟨_, _, _, _, _, hP, rfl⟩ (bl_refl _) | exact hK.out _ _ rfl (bl_refl _) | exact hK.out _ _ rfl (by assumption) | exact hK.out _ _ (by assumption) (by assumption)
    · cases ho
      have e8 : s 8 = _ := hs 8 (by decide) (by decide) (by kernel_rfl)
      simp only [e8] at hK ⊢
      simp only [Act.put, List.setIfInBounds_toArray, List.set_cons_zero, List.set_cons_succ] at hK
      clear hs hne
      go_simp
      all_goals (try go_wp2_with (first | (go_at_call 39; refine (capsule_any _ _ _ _ _ _ _).mono ?_; rintro e w' ⟨m, j, x, y, hC, rfl, hb1⟩) | (go_at_call 25; refine (told_any _ _ _ _ _).mono ?_; rintro e w' ⟨m1, j1, x1, y1, e1, hTo, rfl, hb1⟩)))
      all_goals first | exact hK.out _ _ ⟨_, _, _, _, hC, rfl⟩ hb1 | exact hK.out _ _ ⟨_, _, _, _, _, ⟨_, _, _, _, hC, hTo⟩, rfl⟩ hb1 | exact hK.out _ _ ⟨_, _, _, _, _, hP, rfl⟩ (bl_refl _) | exact hK.out _ _ rfl (bl_refl _) | exact hK.out _ _ rfl (by assumption) | exact hK.out _ _ (by assumption) (by assumption)
    · cases ho
      simp only [Act.put, List.setIfInBounds_toArray, List.set_cons_zero, List.set_cons_succ] at hK
      clear hs hne
      go_simp
      all_goals (try go_wp2_with (first | (go_at_call 39; refine (capsule_any _ _ _ _ _ _ _).mono ?_; rintro e w' ⟨m, j, x, y, hC, rfl, hb1⟩) | (go_at_call 25; refine (told_any _ _ _ _ _).mono ?_; rintro e w' ⟨m1, j1, x1, y1, e1, hTo, rfl, hb1⟩)))
      all_goals first | exact hK.out _ _ ⟨_, _, _, _, hC, rfl⟩ hb1 | exact hK.out _ _ ⟨_, _, _, _, _, ⟨_, _, _, _, hC, hTo⟩, rfl⟩ hb1 | exact hK.out _ _ ⟨_, _, _, _, _, hP, rfl⟩ (bl_refl _) | exact hK.out _ _ rfl (bl_refl _) | exact hK.out _ _ rfl (by assumption) | exact hK.out _ _ (by assumption) (by assumption)
    · cases ho
      have e3 : s 3 = _ := hs 3 (by decide) (by decide) (by kernel_rfl)
      have e7 : s 7 = _ := hs 7 (by decide) (by decide) (by kernel_rfl)
      have e9 : s 9 = _ := hs 9 (by decide) (by decide) (by kernel_rfl)
      have e10 : s 10 = _ := hs 10 (by decide) (by decide) (by kernel_rfl)
      simp only [e3, e7, e9, e10] at hK ⊢
      simp only [Act.put, List.setIfInBounds_toArray, List.set_cons_zero, List.set_cons_succ] at hK
      clear hs hne
      go_simp
      all_goals (try go_wp2_with (first | (go_at_call 39; refine (capsule_any _ _ _ _ _ _ _).mono ?_; rintro e w' ⟨m, j, x, y, hC, rfl, hb1⟩) | (go_at_call 25; refine (told_any _ _ _ _ _).mono ?_; rintro e w' ⟨m1, j1, x1, y1, e1, hTo, rfl, hb1⟩)))
      all_goals first | exact hK.out _ _ ⟨_, _, _, _, hC, rfl⟩ hb1 | exact hK.out _ _ ⟨_, _, _, _, _, ⟨_, _, _, _, hC, hTo⟩, rfl⟩ hb1 | exact hK.out _ _ ⟨_, _, _, _, _, hP, rfl⟩ (bl_refl _) | exact hK.out _ _ rfl (bl_refl _) | exact hK.out _ _ rfl (by assumption) | exact hK.out _ _ (by assumption) (by assumption)
    · cases ho
      obtain ⟨m, j, x, y, hC, e11⟩ := hs 11 (by decide) (by decide) (by kernel_rfl)
      simp only [e11] at hK ⊢
      simp only [Act.put, List.setIfInBounds_toArray, List.set_cons_zero, List.set_cons_succ] at hK
      clear hs hne
      go_simp
      all_goals (try go_wp2_with (first | (go_at_call 39; refine (capsule_any _ _ _ _ _ _ _).mono ?_; rintro e w' ⟨m, j, x, y, hC, rfl, hb1⟩) | (go_at_call 25; refine (told_any _ _ _ _ _).mono ?_; rintro e w' ⟨m1, j1, x1, y1, e1, hTo, rfl, hb1⟩)))
      all_goals first | exact hK.out _ _ ⟨_, _, _, _, hC, rfl⟩ hb1 | exact hK.out _ _ ⟨_, _, _, _, _, ⟨_, _, _, _, hC, hTo⟩, rfl⟩ hb1 | exact hK.out _ _ ⟨_, _, _, _, _, hP, rfl⟩ (bl_refl _) | exact hK.out _ _ rfl (bl_refl _) | exact hK.out _ _ rfl (by assumption) | exact hK.out _ _ (by assumption) (by assumption)
    · cases ho
      obtain ⟨m, j, x, y, e, hP, e12⟩ := hs 12 (by decide) (by decide) (by kernel_rfl)
      simp only [e12] at hK ⊢
      simp only [Act.put, List.setIfInBounds_toArray, List.set_cons_zero, List.set_cons_succ] at hK
      clear hs hne
      go_simp
      all_goals (try go_wp2_with (first | (go_at_call 39; refine (capsule_any _ _ _ _ _ _ _).mono ?_; rintro e w' ⟨m, j, x, y, hC, rfl, hb1⟩) | (go_at_call 25; refine (told_any _ _ _ _ _).mono ?_; rintro e w' ⟨m1, j1, x1, y1, e1, hTo, rfl, hb1⟩)))
      all_goals first | exact hK.out _ _ ⟨_, _, _, _, hC, rfl⟩ hb1 | exact hK.out _ _ ⟨_, _, _, _, _, ⟨_, _, _, _, hC, hTo⟩, rfl⟩ hb1 | exact hK.out _ _ ⟨_, _, _, _, _, hP, rfl⟩ (bl_refl _) | exact hK.out _ _ rfl (bl_refl _) | exact hK.out _ _ rfl (by assumption) | exact hK.out _ _ (by assumption) (by assumption)
    · cases ho
      obtain ⟨m, j, x, y, e, hP, e12⟩ := hs 12 (by decide) (by decide) (by kernel_rfl)
      simp only [e12] at hK ⊢
      simp only [Act.put, List.setIfInBounds_toArray, List.set_cons_zero, List.set_cons_succ] at hK
      clear hs hne
      go_simp
      all_goals (try go_wp2_with (first | (go_at_call 39; refine (capsule_any _ _ _ _ _ _ _).mono ?_; rintro e w' ⟨m, j, x, y, hC, rfl, hb1⟩) | (go_at_call 25; refine (told_any _ _ _ _ _).mono ?_; rintro e w' ⟨m1, j1, x1, y1, e1, hTo, rfl, hb1⟩)))
      all_goals first | exact hK.out _ _ ⟨_, _, _, _, hC, rfl⟩ hb1 | exact hK.out _ _ ⟨_, _, _, _, _, ⟨_, _, _, _, hC, hTo⟩, rfl⟩ hb1 | exact hK.out _ _ ⟨_, _, _, _, _, hP, rfl⟩ (bl_refl _) | exact hK.out _ _ rfl (bl_refl _) | exact hK.out _ _ rfl (by assumption) | exact hK.out _ _ (by assumption) (by assumption)
    · exact absurd rfl hne
    · cases ho
      obtain ⟨m, j, x, y, e, hP, e14⟩ := hs 14 (by decide) (by decide) (by kernel_rfl)
      simp only [e14] at hK ⊢
      simp only [Act.put, List.setIfInBounds_toArray, List.set_cons_zero, List.set_cons_succ] at hK
      clear hs hne
      go_simp
      all_goals (try go_wp2_with (first | (go_at_call 39; refine (capsule_any _ _ _ _ _ _ _).mono ?_; rintro e w' ⟨m, j, x, y, hC, rfl, hb1⟩) | (go_at_call 25; refine (told_any _ _ _ _ _).mono ?_; rintro e w' ⟨m1, j1, x1, y1, e1, hTo, rfl, hb1⟩)))
      all_goals first | exact hK.out _ _ ⟨_, _, _, _, hC, rfl⟩ hb1 | exact hK.out _ _ ⟨_, _, _, _, _, ⟨_, _, _, _, hC, hTo⟩, rfl⟩ hb1 | exact hK.out _ _ ⟨_, _, _, _, _, hP, rfl⟩ (bl_refl _) | exact hK.out _ _ rfl (bl_refl _) | exact hK.out _ _ rfl (by assumption) | exact hK.out _ _ (by assumption) (by assumption)
  case ht_wo =>
    intro s hs W0 W hb0 hb
    have e0 : s 0 = _ := hs 0 (by decide) (by decide)
    have e1 : s 1 = _ := hs 1 (by decide) (by decide)
    have e2 : s 2 = _ := hs 2 (by decide) (by decide)
    have e3 : s 3 = _ := hs 3 (by decide) (by decide)
    have e4 : s 4 = _ := hs 4 (by decide) (by decide)
    have e5 : s 5 = _ := hs 5 (by decide) (by decide)
    have e6 : s 6 = _ := hs 6 (by decide) (by decide)
    have e7 : s 7 = _ := hs 7 (by decide) (by decide)
    have e8 : s 8 = _ := hs 8 (by decide) (by decide)
    have e9 : s 9 = _ := hs 9 (by decide) (by decide)
    have e10 : s 10 = _ := hs 10 (by decide) (by decide)
    obtain ⟨_, _, _, _, _, e11⟩ := hs 11 (by decide) (by decide)
    obtain ⟨_, _, _, _, _, _, e12⟩ := hs 12 (by decide) (by decide)
    obtain ⟨m, j, x, y, ee, hP, e13⟩ := hs 13 (by decide) (by decide)
    obtain ⟨_, _, _, _, _, _, e14⟩ := hs 14 (by decide) (by decide)
    obtain ⟨m2, j2, x2, y2, ff, hP2, e16⟩ := hs 16 (by decide) (by decide)
    simp only [e0, e1, e2, e3, e4, e5, e6, e7, e8, e9, e10, e11, e12, e13, e14, e16]
    rw [e13] at hb
    clear hs e0 e1 e2 e3 e4 e5 e6 e7 e8 e9 e10 e11 e12 e13 e14 e16
    obtain ⟨_, _, _, _, rfl⟩ := hP.sm hP2
    obtain ⟨R0, R1, R2, R3⟩ := put4_at (v := .agg #[.float .f64 m, .float .f64 j, .float .f64 x, .float .f64 y]) (keep hb0 z1_0) (keep hb0 z1_1) (keep hb0 z1_2) (keep hb0 z1_3)
    replace R0 := keep hb R0
    replace R1 := keep hb R1
    replace R2 := keep hb R2
    replace R3 := keep hb R3
    simp only [cellAt] at R0 R1 R2 R3
    go_wp2
    refine bodyPost_ret (v := .tuple #[.agg #[.float .f64 m, .float .f64 j, .float .f64 x, .float .f64 y], .int .i64 ee]) (by simp [R0, R1, R2, R3, results, Try.results14, go_sem] <;> (first | exact ⟨⟨rfl, rfl, rfl, rfl⟩, rfl⟩ | exact ⟨rfl, rfl, rfl, rfl, rfl⟩ | exact ⟨rfl, rfl⟩ | rfl)) rfl ⟨_, _, _, _, _, ?_, rfl, bl_trans (put4_bel (bl_trans B0 hb0) (by omega)) hb⟩
    unfold OfA
    rw [if_pos hs0, if_pos hd, if_neg (by decide), if_pos rfl]
    exact hP

theorem of_3 (n : Nat) (V : Value) (xs ys : Nat → Nat) (r d : Nat) (w : World) (h : AnyS w V n xs ys) (hs0 : shE 3 r xs ys n = 0) (hd : densB d = true) : Calls Try.prog 14 #[.agg #[.int .u8 3, .float .f64 r, V], .float .f64 d] w fun e w' => ∃ m j x y f, OfA 3 r xs ys n d m j x y f ∧ e = .returned (.tuple #[.agg #[.float .f64 m, .float .f64 j, .float .f64 x, .float .f64 y], .int .i64 f]) ∧ Bel w w' := by
  have c1 := cmp_ge .f64
  have c2 := cmp_le .f64
  obtain ⟨a, cap, rfl, a2, a3, a4, a5, a6⟩ := id h
  have hA0 := h
  have d1 : leK .f64 0 d = true := by unfold densB at hd; simp only [Bool.and_eq_true] at hd; exact hd.1
  have d2 : leK .f64 d 4787326403894837248 = true := by unfold densB at hd; simp only [Bool.and_eq_true] at hd; exact hd.2
  go_enter Try.func14, Try.ntmps14
  go_wp2_with (first | (go_at_call 37; refine (check_any _ n xs ys 3 r _ (hA0.bel (bl_alloc (bl_alloc (bl_refl w) _ _) _ _))).mono ?_; rintro e w' ⟨rfl, hb⟩; rw [hs0]; have hx := hA0.bel (bl_trans (bl_alloc (bl_alloc (bl_refl w) _ _) _ _) hb); (first | have B := bl_trans B hb | have B := bl_trans (by repeat (first | exact B | apply bl_drewN)) hb | have B := bl_trans (by repeat (first | exact B | apply bl_drewN | apply bl_drew | apply bl_alloc | refine bl_set ?_ (by simp <;> omega))) hb | have B := hb); (try clear hc hf hz); obtain ⟨hc, hf⟩ := bcell B; have hz := B.size; (try simp at hz)) | (go_at_call 40; refine (polygon_any _ n xs ys _ _ hx).mono ?_; rintro e w' ⟨m1, j1, x1, y1, e1, hP, rfl, hb⟩; (first | have B := bl_trans B hb | have B := bl_trans (by repeat (first | exact B | apply bl_drewN)) hb | have B := bl_trans (by repeat (first | exact B | apply bl_drewN | apply bl_drew | apply bl_alloc | refine bl_set ?_ (by simp <;> omega))) hb | have B := hb); (try clear hc hf hz); obtain ⟨hc, hf⟩ := bcell B; have hz := B.size; (try simp at hz)))
  refine bodyPost_ret (v := .tuple #[.agg #[.float .f64 m1, .float .f64 j1, .float .f64 x1, .float .f64 y1], .int .i64 e1]) (by simp [hc, results, Try.results14, go_sem] <;> (first | exact ⟨⟨rfl, rfl, rfl, rfl⟩, rfl⟩ | exact ⟨rfl, rfl, rfl, rfl, rfl⟩ | exact ⟨rfl, rfl⟩ | rfl)) rfl ⟨_, _, _, _, _, by unfold OfA; rw [if_pos hs0, if_pos hd, if_neg (by decide), if_neg (by decide)]; exact hP, rfl, ?_⟩
  repeat (first | exact bl_refl _ | assumption | apply bl_drewN | apply bl_drew | apply bl_alloc | refine bl_set ?_ (by simp <;> omega) | refine bl_trans ?_ (by assumption))
set_option maxRecDepth 100000 in
set_option maxHeartbeats 1000000 in
theorem of_any (V : Value) (n : Nat) (xs ys : Nat → Nat) (k : Int) (r : Nat) (d : Nat) (w : World) (h : AnyS w V n xs ys) (hr : okK .f64 r) : Calls Try.prog 14 #[.agg #[.int .u8 k, .float .f64 r, V], .float .f64 d] w fun e w' => ∃ m j x y f, OfA k r xs ys n d m j x y f ∧ e = .returned (.tuple #[.agg #[.float .f64 m, .float .f64 j, .float .f64 x, .float .f64 y], .int .i64 f]) ∧ Bel w w' := by
  have c1 := cmp_ge .f64
  have c2 := cmp_le .f64
  obtain ⟨a, cap, rfl, a2, a3, a4, a5, a6⟩ := id h
  have hA0 := h
  obtain ⟨v, hs0⟩ : ∃ v, shE k r xs ys n = v := ⟨_, rfl⟩
  by_cases hv : v = 0
  · subst hv
    rcases (show (leK .f64 0 d = false) ∨ (leK .f64 0 d = true ∧ leK .f64 d 4787326403894837248 = false) ∨ (leK .f64 0 d = true ∧ leK .f64 d 4787326403894837248 = true) by cases leK .f64 0 d <;> cases leK .f64 d 4787326403894837248 <;> simp) with d1 | ⟨d1, d2⟩ | ⟨d1, d2⟩
    · have hd : ¬ densB d = true := by unfold densB; rw [d1]; simp
      go_enter Try.func14, Try.ntmps14
      go_wp2_with (first | (go_at_call 37; refine (check_any _ n xs ys k r _ (hA0.bel (bl_alloc (bl_alloc (bl_refl w) _ _) _ _))).mono ?_; rintro e w' ⟨rfl, hb⟩; rw [hs0]; (first | have B := bl_trans B hb | have B := bl_trans (by repeat (first | exact B | apply bl_drewN)) hb | have B := bl_trans (by repeat (first | exact B | apply bl_drewN | apply bl_drew | apply bl_alloc | refine bl_set ?_ (by simp <;> omega))) hb | have B := hb); (try clear hc hf hz); obtain ⟨hc, hf⟩ := bcell B; have hz := B.size; (try simp at hz)))
      refine bodyPost_ret (v := .tuple #[.agg #[.float .f64 0, .float .f64 0, .float .f64 0, .float .f64 0], .int .i64 5]) (by simp [hc, results, Try.results14, go_sem] <;> (first | exact ⟨⟨rfl, rfl, rfl, rfl⟩, rfl⟩ | exact ⟨rfl, rfl, rfl, rfl, rfl⟩ | exact ⟨rfl, rfl⟩ | rfl)) rfl ⟨_, _, _, _, _, by unfold OfA; rw [if_pos hs0, if_neg hd]; exact ⟨⟨rfl, rfl, rfl, rfl⟩, rfl⟩, rfl, ?_⟩
      repeat (first | exact bl_refl _ | assumption | apply bl_drewN | apply bl_drew | apply bl_alloc | refine bl_set ?_ (by simp <;> omega) | refine bl_trans ?_ (by assumption))
    · have hd : ¬ densB d = true := by unfold densB; rw [d1, d2]; simp
      go_enter Try.func14, Try.ntmps14
      go_wp2_with (first | (go_at_call 37; refine (check_any _ n xs ys k r _ (hA0.bel (bl_alloc (bl_alloc (bl_refl w) _ _) _ _))).mono ?_; rintro e w' ⟨rfl, hb⟩; rw [hs0]; (first | have B := bl_trans B hb | have B := bl_trans (by repeat (first | exact B | apply bl_drewN)) hb | have B := bl_trans (by repeat (first | exact B | apply bl_drewN | apply bl_drew | apply bl_alloc | refine bl_set ?_ (by simp <;> omega))) hb | have B := hb); (try clear hc hf hz); obtain ⟨hc, hf⟩ := bcell B; have hz := B.size; (try simp at hz)))
      refine bodyPost_ret (v := .tuple #[.agg #[.float .f64 0, .float .f64 0, .float .f64 0, .float .f64 0], .int .i64 5]) (by simp [hc, results, Try.results14, go_sem] <;> (first | exact ⟨⟨rfl, rfl, rfl, rfl⟩, rfl⟩ | exact ⟨rfl, rfl, rfl, rfl, rfl⟩ | exact ⟨rfl, rfl⟩ | rfl)) rfl ⟨_, _, _, _, _, by unfold OfA; rw [if_pos hs0, if_neg hd]; exact ⟨⟨rfl, rfl, rfl, rfl⟩, rfl⟩, rfl, ?_⟩
      repeat (first | exact bl_refl _ | assumption | apply bl_drewN | apply bl_drew | apply bl_alloc | refine bl_set ?_ (by simp <;> omega) | refine bl_trans ?_ (by assumption))
    have hd : densB d = true := by unfold densB; rw [d1, d2]; rfl
    rcases sh_some a5 hr hs0 with ⟨rfl, rfl, _⟩ | ⟨rfl, rfl, _⟩ | ⟨rfl, h3, _⟩
    · exact of_1 _ xs ys r d w h hs0 hd
    · exact of_2 _ xs ys r d w h hs0 hd
    · exact of_3 n _ xs ys r d w h hs0 hd
  · go_enter Try.func14, Try.ntmps14
    go_wp2_with (first | (go_at_call 37; refine (check_any _ n xs ys k r _ (hA0.bel (bl_alloc (bl_alloc (bl_refl w) _ _) _ _))).mono ?_; rintro e w' ⟨rfl, hb⟩; rw [hs0]; (first | have B := bl_trans B hb | have B := bl_trans (by repeat (first | exact B | apply bl_drewN)) hb | have B := bl_trans (by repeat (first | exact B | apply bl_drewN | apply bl_drew | apply bl_alloc | refine bl_set ?_ (by simp <;> omega))) hb | have B := hb); (try clear hc hf hz); obtain ⟨hc, hf⟩ := bcell B; have hz := B.size; (try simp at hz)))
    all_goals
      refine bodyPost_ret (v := .tuple #[.agg #[.float .f64 0, .float .f64 0, .float .f64 0, .float .f64 0], .int .i64 v]) (by simp [hc, results, Try.results14, go_sem] <;> (first | exact ⟨⟨rfl, rfl, rfl, rfl⟩, rfl⟩ | exact ⟨rfl, rfl, rfl, rfl, rfl⟩ | exact ⟨rfl, rfl⟩ | rfl)) rfl ⟨_, _, _, _, _, by unfold OfA; rw [if_neg (by rw [hs0]; exact hv)]; exact ⟨⟨rfl, rfl, rfl, rfl⟩, hs0.symm⟩, rfl, ?_⟩
      repeat (first | exact bl_refl _ | assumption | apply bl_drewN | apply bl_drew | apply bl_alloc | refine bl_set ?_ (by simp <;> omega) | refine bl_trans ?_ (by assumption))

end Go.Proofs.Ytoofbfjlgablkaa
