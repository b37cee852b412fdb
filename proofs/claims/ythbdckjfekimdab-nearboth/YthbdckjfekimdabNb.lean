/-
  What each function of package poly answers, and what the reference of its chapter answers: one contract a function, for every float: the answer stands in the relation of its formula to what was given; of the memory that was there nothing has turned.
-/
import Derived.Test.YthbdckjfekimdabVec
import Derived.Test.YthbdckjfekimdabNa
import Derived.Below
import Derived.WalkKit
import Derived.WalkLawsBesides
import Derived.WalkSpells
import Derived.ProofKit
import Derived.OpenShut
import Derived.Deep.RegionHeld3
namespace Go.Proofs.Ythbdckjfekimdab
open Go.ChangeShapes Go.WideShapes Go.ChangeAt Go.RowKit
set_option linter.unusedVariables false
set_option linter.unusedSimpArgs false


set_option maxRecDepth 100000 in
set_option maxHeartbeats 1000000 in
theorem point_n {ax ay bx b_y px py : Nat} {A B P : Vp} (w : World) (ha : isP ax ay A) (hb_ : isP bx b_y B) (hp : isP px py P) : Calls Try.prog 19 #[.agg #[.float .f64 ax, .float .f64 ay], .agg #[.float .f64 bx, .float .f64 b_y], .agg #[.float .f64 px, .float .f64 py]] w fun e w' => ∃ x y t, isP x y (ptF A B P).1 ∧ isF t (ptF A B P).2 ∧ e = .returned (.tuple #[.agg #[.float .f64 x, .float .f64 y], .float .f64 t]) ∧ Bel w w' := by
  have c1 := cmp_gt .f64
  have z0_0 : (w.alloc (.cells #[.float .f64 ax, .float .f64 ay] 28)).cell? ⟨w.heap.size, 0, none⟩ = some (.float .f64 ax) := by rw [World.cell?_alloc_new]; rfl
  replace z0_0 := up_alloc (o := .cells #[.float .f64 bx, .float .f64 b_y] 28) z0_0
  replace z0_0 := up_alloc (o := .cells #[.float .f64 px, .float .f64 py] 28) z0_0
  replace z0_0 := up_alloc (o := .cells #[.float .f64 0, .float .f64 0] 28) z0_0
  have z0_1 : (w.alloc (.cells #[.float .f64 ax, .float .f64 ay] 28)).cell? ⟨w.heap.size, 1, none⟩ = some (.float .f64 ay) := by rw [World.cell?_alloc_new]; rfl
  replace z0_1 := up_alloc (o := .cells #[.float .f64 bx, .float .f64 b_y] 28) z0_1
  replace z0_1 := up_alloc (o := .cells #[.float .f64 px, .float .f64 py] 28) z0_1
  replace z0_1 := up_alloc (o := .cells #[.float .f64 0, .float .f64 0] 28) z0_1
  have z1_0 : ((w.alloc (.cells #[.float .f64 ax, .float .f64 ay] 28)).alloc (.cells #[.float .f64 bx, .float .f64 b_y] 28)).cell? ⟨w.heap.size + 1, 0, none⟩ = some (.float .f64 bx) := by rw [← (show (w.alloc (.cells #[.float .f64 ax, .float .f64 ay] 28)).heap.size = w.heap.size + 1 by simp only [World.size_alloc]), World.cell?_alloc_new]; rfl
  replace z1_0 := up_alloc (o := .cells #[.float .f64 px, .float .f64 py] 28) z1_0
  replace z1_0 := up_alloc (o := .cells #[.float .f64 0, .float .f64 0] 28) z1_0
  have z1_1 : ((w.alloc (.cells #[.float .f64 ax, .float .f64 ay] 28)).alloc (.cells #[.float .f64 bx, .float .f64 b_y] 28)).cell? ⟨w.heap.size + 1, 1, none⟩ = some (.float .f64 b_y) := by rw [← (show (w.alloc (.cells #[.float .f64 ax, .float .f64 ay] 28)).heap.size = w.heap.size + 1 by simp only [World.size_alloc]), World.cell?_alloc_new]; rfl
  replace z1_1 := up_alloc (o := .cells #[.float .f64 px, .float .f64 py] 28) z1_1
  replace z1_1 := up_alloc (o := .cells #[.float .f64 0, .float .f64 0] 28) z1_1
  have z2_0 : (((w.alloc (.cells #[.float .f64 ax, .float .f64 ay] 28)).alloc (.cells #[.float .f64 bx, .float .f64 b_y] 28)).alloc (.cells #[.float .f64 px, .float .f64 py] 28)).cell? ⟨w.heap.size + 1 + 1, 0, none⟩ = some (.float .f64 px) := by rw [← (show ((w.alloc (.cells #[.float .f64 ax, .float .f64 ay] 28)).alloc (.cells #[.float .f64 bx, .float .f64 b_y] 28)).heap.size = w.heap.size + 1 + 1 by simp only [World.size_alloc]), World.cell?_alloc_new]; rfl
  replace z2_0 := up_alloc (o := .cells #[.float .f64 0, .float .f64 0] 28) z2_0
  have z2_1 : (((w.alloc (.cells #[.float .f64 ax, .float .f64 ay] 28)).alloc (.cells #[.float .f64 bx, .float .f64 b_y] 28)).alloc (.cells #[.float .f64 px, .float .f64 py] 28)).cell? ⟨w.heap.size + 1 + 1, 1, none⟩ = some (.float .f64 py) := by rw [← (show ((w.alloc (.cells #[.float .f64 ax, .float .f64 ay] 28)).alloc (.cells #[.float .f64 bx, .float .f64 b_y] 28)).heap.size = w.heap.size + 1 + 1 by simp only [World.size_alloc]), World.cell?_alloc_new]; rfl
  replace z2_1 := up_alloc (o := .cells #[.float .f64 0, .float .f64 0] 28) z2_1
  have z3_0 : ((((w.alloc (.cells #[.float .f64 ax, .float .f64 ay] 28)).alloc (.cells #[.float .f64 bx, .float .f64 b_y] 28)).alloc (.cells #[.float .f64 px, .float .f64 py] 28)).alloc (.cells #[.float .f64 0, .float .f64 0] 28)).cell? ⟨w.heap.size + 1 + 1 + 1, 0, none⟩ = some (.float .f64 0) := by rw [← (show (((w.alloc (.cells #[.float .f64 ax, .float .f64 ay] 28)).alloc (.cells #[.float .f64 bx, .float .f64 b_y] 28)).alloc (.cells #[.float .f64 px, .float .f64 py] 28)).heap.size = w.heap.size + 1 + 1 + 1 by simp only [World.size_alloc]), World.cell?_alloc_new]; rfl
  have z3_1 : ((((w.alloc (.cells #[.float .f64 ax, .float .f64 ay] 28)).alloc (.cells #[.float .f64 bx, .float .f64 b_y] 28)).alloc (.cells #[.float .f64 px, .float .f64 py] 28)).alloc (.cells #[.float .f64 0, .float .f64 0] 28)).cell? ⟨w.heap.size + 1 + 1 + 1, 1, none⟩ = some (.float .f64 0) := by rw [← (show (((w.alloc (.cells #[.float .f64 ax, .float .f64 ay] 28)).alloc (.cells #[.float .f64 bx, .float .f64 b_y] 28)).alloc (.cells #[.float .f64 px, .float .f64 py] 28)).heap.size = w.heap.size + 1 + 1 + 1 by simp only [World.size_alloc]), World.cell?_alloc_new]; rfl
  have B0 : Bel w ((((w.alloc (.cells #[.float .f64 ax, .float .f64 ay] 28)).alloc (.cells #[.float .f64 bx, .float .f64 b_y] 28)).alloc (.cells #[.float .f64 px, .float .f64 py] 28)).alloc (.cells #[.float .f64 0, .float .f64 0] 28)) := bl_alloc (bl_alloc (bl_alloc (bl_alloc (bl_refl w) _ _) _ _) _ _) _ _
  have fR : ∀ o, ((((w.alloc (.cells #[.float .f64 ax, .float .f64 ay] 28)).alloc (.cells #[.float .f64 bx, .float .f64 b_y] 28)).alloc (.cells #[.float .f64 px, .float .f64 py] 28)).alloc (.cells #[.float .f64 0, .float .f64 0] 28)).frozen? ⟨w.heap.size + 1 + 1 + 1, o, none⟩ = false := fun o => ((show Bel (((w.alloc (.cells #[.float .f64 ax, .float .f64 ay] 28)).alloc (.cells #[.float .f64 bx, .float .f64 b_y] 28)).alloc (.cells #[.float .f64 px, .float .f64 py] 28)) ((((w.alloc (.cells #[.float .f64 ax, .float .f64 ay] 28)).alloc (.cells #[.float .f64 bx, .float .f64 b_y] 28)).alloc (.cells #[.float .f64 px, .float .f64 py] 28)).alloc (.cells #[.float .f64 0, .float .f64 0] 28)) by repeat (first | exact bl_refl _ | apply bl_alloc)).2 _).trans (fresh_frozen (by simp only [World.size_alloc]; exact Nat.le_refl _))
  go_enter Try.func19, Try.ntmps19
  go_wp2_with (first | (go_at_call 12; refine (vSub_n _ hb_ ha).mono ?_; rintro e w1 ⟨dx, dy, hd, rfl, hb⟩; replace z0_0 : w1.cell? ⟨w.heap.size, 0, none⟩ = some (.float .f64 ax) := keep hb (by first | exact z0_0 | go_keep); replace z0_1 : w1.cell? ⟨w.heap.size, 1, none⟩ = some (.float .f64 ay) := keep hb (by first | exact z0_1 | go_keep); replace z1_0 : w1.cell? ⟨w.heap.size + 1, 0, none⟩ = some (.float .f64 bx) := keep hb (by first | exact z1_0 | go_keep); replace z1_1 : w1.cell? ⟨w.heap.size + 1, 1, none⟩ = some (.float .f64 b_y) := keep hb (by first | exact z1_1 | go_keep); replace z2_0 : w1.cell? ⟨w.heap.size + 1 + 1, 0, none⟩ = some (.float .f64 px) := keep hb (by first | exact z2_0 | go_keep); replace z2_1 : w1.cell? ⟨w.heap.size + 1 + 1, 1, none⟩ = some (.float .f64 py) := keep hb (by first | exact z2_1 | go_keep); replace z3_0 : w1.cell? ⟨w.heap.size + 1 + 1 + 1, 0, none⟩ = some (.float .f64 0) := keep hb (by first | exact z3_0 | go_keep); replace z3_1 : w1.cell? ⟨w.heap.size + 1 + 1 + 1, 1, none⟩ = some (.float .f64 0) := keep hb (by first | exact z3_1 | go_keep); have BF := hb; clear hb; have hz := BF.size; simp only [World.size_alloc] at hz) | (go_at_call 34; refine (vSquare_n _ hd).mono ?_; rintro e w2 ⟨s, hs, rfl, hb⟩; replace z0_0 : w2.cell? ⟨w.heap.size, 0, none⟩ = some (.float .f64 ax) := keep hb (by first | exact z0_0 | go_keep); replace z0_1 : w2.cell? ⟨w.heap.size, 1, none⟩ = some (.float .f64 ay) := keep hb (by first | exact z0_1 | go_keep); replace z1_0 : w2.cell? ⟨w.heap.size + 1, 0, none⟩ = some (.float .f64 bx) := keep hb (by first | exact z1_0 | go_keep); replace z1_1 : w2.cell? ⟨w.heap.size + 1, 1, none⟩ = some (.float .f64 b_y) := keep hb (by first | exact z1_1 | go_keep); replace z2_0 : w2.cell? ⟨w.heap.size + 1 + 1, 0, none⟩ = some (.float .f64 px) := keep hb (by first | exact z2_0 | go_keep); replace z2_1 : w2.cell? ⟨w.heap.size + 1 + 1, 1, none⟩ = some (.float .f64 py) := keep hb (by first | exact z2_1 | go_keep); replace z3_0 : w2.cell? ⟨w.heap.size + 1 + 1 + 1, 0, none⟩ = some (.float .f64 0) := keep hb (by first | exact z3_0 | go_keep); replace z3_1 : w2.cell? ⟨w.heap.size + 1 + 1 + 1, 1, none⟩ = some (.float .f64 0) := keep hb (by first | exact z3_1 | go_keep); have k0 : w2.cell? ⟨w1.heap.size, 0, none⟩ = some (.float .f64 dx) := keep hb (by go_keep); have k1 : w2.cell? ⟨w1.heap.size, 1, none⟩ = some (.float .f64 dy) := keep hb (by go_keep); replace BF := bl_trans (by repeat (first | exact BF | apply bl_alloc | refine bl_set ?_ (by simp only [World.size_alloc]; omega))) hb; clear hb; have fE := fun o => (BF.2 _).trans (fR o); cases h0 : ltK .f64 0 s))
  · refine bodyPost_ret (v := .tuple #[.agg #[.float .f64 ax, .float .f64 ay], .float .f64 0]) (by simp [z3_0, z3_1, results, Try.results19, go_sem] <;> (first | exact ⟨⟨rfl, rfl⟩, rfl⟩ | exact ⟨rfl, rfl, rfl, rfl⟩ | exact ⟨rfl, rfl, rfl⟩ | exact ⟨rfl, rfl⟩ | rfl)) rfl ⟨_, _, _, by unfold ptF; rw [← lt0_is hs, h0]; exact ha, by unfold ptF; rw [← lt0_is hs, h0]; exact isF_zero, rfl, ?_⟩
    have B := bl_trans B0 BF
    repeat (first | exact bl_refl _ | assumption | apply bl_drewN | apply bl_drew | apply bl_alloc | refine bl_set ?_ (by simp <;> omega) | refine bl_trans ?_ (by assumption))
  · have he1 : (ptF A B P).1 = moF A (clK .f64 (oF .quo (dtF (suF P A) (suF B A)) (dtF (suF B A) (suF B A))) 0 4607182418800017408) (suF B A) := by unfold ptF; rw [← lt0_is hs, h0, if_pos rfl]
    have he2 : (ptF A B P).2 = clK .f64 (oF .quo (dtF (suF P A) (suF B A)) (dtF (suF B A) (suF B A))) 0 4607182418800017408 := by unfold ptF; rw [← lt0_is hs, h0, if_pos rfl]
    refine wp_region_mono 9 rfl (fun i W v => match i with | 0 => v = .agg #[.float .f64 px, .float .f64 py] | 1 => v = .agg #[.float .f64 ax, .float .f64 ay] | 2 => ∃ x y, isP x y (suF P A) ∧ v = .agg #[.float .f64 x, .float .f64 y] | 3 => v = .agg #[.float .f64 dx, .float .f64 dy] | 4 => ∃ r, isF r (dtF (suF P A) (suF B A)) ∧ v = .float .f64 r | 5 => v = .float .f64 s | 6 => ∃ q, isF q (oF .quo (dtF (suF P A) (suF B A)) (dtF (suF B A) (suF B A))) ∧ v = .float .f64 q | 7 => ∃ q, isF q (oF .quo (dtF (suF P A) (suF B A)) (dtF (suF B A) (suF B A))) ∧ v = .float .f64 (clK .f64 q 0 4607182418800017408) | 8 => ∃ q, isF q (oF .quo (dtF (suF P A) (suF B A)) (dtF (suF B A) (suF B A))) ∧ v = .float .f64 (clK .f64 q 0 4607182418800017408) | _ => False) ?A_wm (by kernel_rfl) (by kernel_rfl) ?hA_wm ?hmo_wm ?hq_wm ?ht_wm
    case hA_wm =>
      intro s
      simp only [putL, dstO, Act.put, List.getElem?_toArray, List.getElem?_cons_zero, List.getElem?_cons_succ, Option.bind_some, List.setIfInBounds_toArray, List.set_cons_zero, List.set_cons_succ, if_true]
      all_goals exact rfl
    case hmo_wm =>
      intro i W W' v hi hb h
      rcases (show i = 0 ∨ i = 1 ∨ i = 2 ∨ i = 3 ∨ i = 4 ∨ i = 5 ∨ i = 6 ∨ i = 7 ∨ i = 8 by omega) with rfl | rfl | rfl | rfl | rfl | rfl | rfl | rfl | rfl
      all_goals first | exact h
    case hq_wm =>
      intro i o hi ho s W hs hb K hK
      have q4 := run_quo Try.prog; have uz0_0 := keep hb z0_0; have uz0_1 := keep hb z0_1; have uz1_0 := keep hb z1_0; have uz1_1 := keep hb z1_1; have uz2_0 := keep hb z2_0; have uz2_1 := keep hb z2_1; have uz3_0 := keep hb z3_0; have uz3_1 := keep hb z3_1; have uk0 := keep hb k0; have uk1 := keep hb k1
      rcases (show i = 0 ∨ i = 1 ∨ i = 2 ∨ i = 3 ∨ i = 4 ∨ i = 5 ∨ i = 6 ∨ i = 7 ∨ i = 8 by omega) with rfl | rfl | rfl | rfl | rfl | rfl | rfl | rfl | rfl
      · cases ho
        simp only [Act.put, List.setIfInBounds_toArray, List.set_cons_zero, List.set_cons_succ] at hK
        clear hs
        go_simp
        all_goals (try go_wp2_with (first | (go_at_call 12; refine (vSub_n _ hp ha).mono ?_; rintro e w' ⟨x, y, h2, rfl, hb1⟩) | (go_at_call 43; refine (vDot_n _ h2 hd).mono ?_; rintro e w' ⟨r, h4, rfl, hb1⟩) | (go_at_call 42; refine (clamp_6 _ _ _ _).mono ?_; rintro e w' ⟨rfl, rfl⟩)))
        all_goals first | exact hK.out _ _ ⟨_, _, h2, rfl⟩ hb1 | exact hK.out _ _ ⟨_, h4, rfl⟩ hb1 | exact hK.out _ _ ⟨_, o_is _ h4 hs, rfl⟩ (by first | exact bl_refl _ | exact bl_drewN (bl_refl _) _) | exact hK.out _ _ ⟨_, h6, rfl⟩ (bl_refl _) | exact hK.out _ _ ⟨_, h7, rfl⟩ (bl_refl _) | exact hK.out _ _ rfl (bl_refl _) | exact hK.out _ _ rfl (by assumption) | exact hK.out _ _ (by assumption) (by assumption)
      · cases ho
        simp only [Act.put, List.setIfInBounds_toArray, List.set_cons_zero, List.set_cons_succ] at hK
        clear hs
        go_simp
        all_goals (try go_wp2_with (first | (go_at_call 12; refine (vSub_n _ hp ha).mono ?_; rintro e w' ⟨x, y, h2, rfl, hb1⟩) | (go_at_call 43; refine (vDot_n _ h2 hd).mono ?_; rintro e w' ⟨r, h4, rfl, hb1⟩) | (go_at_call 42; refine (clamp_6 _ _ _ _).mono ?_; rintro e w' ⟨rfl, rfl⟩)))
        all_goals first | exact hK.out _ _ ⟨_, _, h2, rfl⟩ hb1 | exact hK.out _ _ ⟨_, h4, rfl⟩ hb1 | exact hK.out _ _ ⟨_, o_is _ h4 hs, rfl⟩ (by first | exact bl_refl _ | exact bl_drewN (bl_refl _) _) | exact hK.out _ _ ⟨_, h6, rfl⟩ (bl_refl _) | exact hK.out _ _ ⟨_, h7, rfl⟩ (bl_refl _) | exact hK.out _ _ rfl (bl_refl _) | exact hK.out _ _ rfl (by assumption) | exact hK.out _ _ (by assumption) (by assumption)
      · cases ho
        have e0 : s 0 = _ := hs 0 (by decide) (by kernel_rfl)
        have e1 : s 1 = _ := hs 1 (by decide) (by kernel_rfl)
        simp only [e0, e1] at hK ⊢
        simp only [Act.put, List.setIfInBounds_toArray, List.set_cons_zero, List.set_cons_succ] at hK
        clear hs
        go_simp
        all_goals (try go_wp2_with (first | (go_at_call 12; refine (vSub_n _ hp ha).mono ?_; rintro e w' ⟨x, y, h2, rfl, hb1⟩) | (go_at_call 43; refine (vDot_n _ h2 hd).mono ?_; rintro e w' ⟨r, h4, rfl, hb1⟩) | (go_at_call 42; refine (clamp_6 _ _ _ _).mono ?_; rintro e w' ⟨rfl, rfl⟩)))
        all_goals first | exact hK.out _ _ ⟨_, _, h2, rfl⟩ hb1 | exact hK.out _ _ ⟨_, h4, rfl⟩ hb1 | exact hK.out _ _ ⟨_, o_is _ h4 hs, rfl⟩ (by first | exact bl_refl _ | exact bl_drewN (bl_refl _) _) | exact hK.out _ _ ⟨_, h6, rfl⟩ (bl_refl _) | exact hK.out _ _ ⟨_, h7, rfl⟩ (bl_refl _) | exact hK.out _ _ rfl (bl_refl _) | exact hK.out _ _ rfl (by assumption) | exact hK.out _ _ (by assumption) (by assumption)
      · cases ho
        simp only [Act.put, List.setIfInBounds_toArray, List.set_cons_zero, List.set_cons_succ] at hK
        clear hs
        go_simp
        all_goals (try go_wp2_with (first | (go_at_call 12; refine (vSub_n _ hp ha).mono ?_; rintro e w' ⟨x, y, h2, rfl, hb1⟩) | (go_at_call 43; refine (vDot_n _ h2 hd).mono ?_; rintro e w' ⟨r, h4, rfl, hb1⟩) | (go_at_call 42; refine (clamp_6 _ _ _ _).mono ?_; rintro e w' ⟨rfl, rfl⟩)))
        all_goals first | exact hK.out _ _ ⟨_, _, h2, rfl⟩ hb1 | exact hK.out _ _ ⟨_, h4, rfl⟩ hb1 | exact hK.out _ _ ⟨_, o_is _ h4 hs, rfl⟩ (by first | exact bl_refl _ | exact bl_drewN (bl_refl _) _) | exact hK.out _ _ ⟨_, h6, rfl⟩ (bl_refl _) | exact hK.out _ _ ⟨_, h7, rfl⟩ (bl_refl _) | exact hK.out _ _ rfl (bl_refl _) | exact hK.out _ _ rfl (by assumption) | exact hK.out _ _ (by assumption) (by assumption)
      · cases ho
        obtain ⟨x, y, h2, e2⟩ := hs 2 (by decide) (by kernel_rfl)
        have e3 : s 3 = _ := hs 3 (by decide) (by kernel_rfl)
        simp only [e2, e3] at hK ⊢
        simp only [Act.put, List.setIfInBounds_toArray, List.set_cons_zero, List.set_cons_succ] at hK
        clear hs
        go_simp
        all_goals (try go_wp2_with (first | (go_at_call 12; refine (vSub_n _ hp ha).mono ?_; rintro e w' ⟨x, y, h2, rfl, hb1⟩) | (go_at_call 43; refine (vDot_n _ h2 hd).mono ?_; rintro e w' ⟨r, h4, rfl, hb1⟩) | (go_at_call 42; refine (clamp_6 _ _ _ _).mono ?_; rintro e w' ⟨rfl, rfl⟩)))
        all_goals first | exact hK.out _ _ ⟨_, _, h2, rfl⟩ hb1 | exact hK.out _ _ ⟨_, h4, rfl⟩ hb1 | exact hK.out _ _ ⟨_, o_is _ h4 hs, rfl⟩ (by first | exact bl_refl _ | exact bl_drewN (bl_refl _) _) | exact hK.out _ _ ⟨_, h6, rfl⟩ (bl_refl _) | exact hK.out _ _ ⟨_, h7, rfl⟩ (bl_refl _) | exact hK.out _ _ rfl (bl_refl _) | exact hK.out _ _ rfl (by assumption) | exact hK.out _ _ (by assumption) (by assumption)
      · cases ho
        simp only [Act.put, List.setIfInBounds_toArray, List.set_cons_zero, List.set_cons_succ] at hK
        clear hs
        go_simp
        all_goals (try go_wp2_with (first | (go_at_call 12; refine (vSub_n _ hp ha).mono ?_; rintro e w' ⟨x, y, h2, rfl, hb1⟩) | (go_at_call 43; refine (vDot_n _ h2 hd).mono ?_; rintro e w' ⟨r, h4, rfl, hb1⟩) | (go_at_call 42; refine (clamp_6 _ _ _ _).mono ?_; rintro e w' ⟨rfl, rfl⟩)))
        all_goals first | exact hK.out _ _ ⟨_, _, h2, rfl⟩ hb1 | exact hK.out _ _ ⟨_, h4, rfl⟩ hb1 | exact hK.out _ _ ⟨_, o_is _ h4 hs, rfl⟩ (by first | exact bl_refl _ | exact bl_drewN (bl_refl _) _) | exact hK.out _ _ ⟨_, h6, rfl⟩ (bl_refl _) | exact hK.out _ _ ⟨_, h7, rfl⟩ (bl_refl _) | exact hK.out _ _ rfl (bl_refl _) | exact hK.out _ _ rfl (by assumption) | exact hK.out _ _ (by assumption) (by assumption)
      · cases ho
        obtain ⟨r, h4, e4⟩ := hs 4 (by decide) (by kernel_rfl)
        have e5 : s 5 = _ := hs 5 (by decide) (by kernel_rfl)
        simp only [e4, e5] at hK ⊢
        simp only [Act.put, List.setIfInBounds_toArray, List.set_cons_zero, List.set_cons_succ] at hK
        clear hs
        go_simp
        all_goals (try go_wp2_with (first | (go_at_call 12; refine (vSub_n _ hp ha).mono ?_; rintro e w' ⟨x, y, h2, rfl, hb1⟩) | (go_at_call 43; refine (vDot_n _ h2 hd).mono ?_; rintro e w' ⟨r, h4, rfl, hb1⟩) | (go_at_call 42; refine (clamp_6 _ _ _ _).mono ?_; rintro e w' ⟨rfl, rfl⟩)))
        all_goals first | exact hK.out _ _ ⟨_, _, h2, rfl⟩ hb1 | exact hK.out _ _ ⟨_, h4, rfl⟩ hb1 | exact hK.out _ _ ⟨_, o_is _ h4 hs, rfl⟩ (by first | exact bl_refl _ | exact bl_drewN (bl_refl _) _) | exact hK.out _ _ ⟨_, h6, rfl⟩ (bl_refl _) | exact hK.out _ _ ⟨_, h7, rfl⟩ (bl_refl _) | exact hK.out _ _ rfl (bl_refl _) | exact hK.out _ _ rfl (by assumption) | exact hK.out _ _ (by assumption) (by assumption)
      · cases ho
        obtain ⟨q, h6, e6⟩ := hs 6 (by decide) (by kernel_rfl)
        simp only [e6] at hK ⊢
        simp only [Act.put, List.setIfInBounds_toArray, List.set_cons_zero, List.set_cons_succ] at hK
        clear hs
        go_simp
        all_goals (try go_wp2_with (first | (go_at_call 12; refine (vSub_n _ hp ha).mono ?_; rintro e w' ⟨x, y, h2, rfl, hb1⟩) | (go_at_call 43; refine (vDot_n _ h2 hd).mono ?_; rintro e w' ⟨r, h4, rfl, hb1⟩) | (go_at_call 42; refine (clamp_6 _ _ _ _).mono ?_; rintro e w' ⟨rfl, rfl⟩)))
        all_goals first | exact hK.out _ _ ⟨_, _, h2, rfl⟩ hb1 | exact hK.out _ _ ⟨_, h4, rfl⟩ hb1 | exact hK.out _ _ ⟨_, o_is _ h4 hs, rfl⟩ (by first | exact bl_refl _ | exact bl_drewN (bl_refl _) _) | exact hK.out _ _ ⟨_, h6, rfl⟩ (bl_refl _) | exact hK.out _ _ ⟨_, h7, rfl⟩ (bl_refl _) | exact hK.out _ _ rfl (bl_refl _) | exact hK.out _ _ rfl (by assumption) | exact hK.out _ _ (by assumption) (by assumption)
      · cases ho
        obtain ⟨q, h7, e7⟩ := hs 7 (by decide) (by kernel_rfl)
        simp only [e7] at hK ⊢
        simp only [Act.put, List.setIfInBounds_toArray, List.set_cons_zero, List.set_cons_succ] at hK
        clear hs
        go_simp
        all_goals (try go_wp2_with (first | (go_at_call 12; refine (vSub_n _ hp ha).mono ?_; rintro e w' ⟨x, y, h2, rfl, hb1⟩) | (go_at_call 43; refine (vDot_n _ h2 hd).mono ?_; rintro e w' ⟨r, h4, rfl, hb1⟩) | (go_at_call 42; refine (clamp_6 _ _ _ _).mono ?_; rintro e w' ⟨rfl, rfl⟩)))
        all_goals first | exact hK.out _ _ ⟨_, _, h2, rfl⟩ hb1 | exact hK.out _ _ ⟨_, h4, rfl⟩ hb1 | exact hK.out _ _ ⟨_, o_is _ h4 hs, rfl⟩ (by first | exact bl_refl _ | exact bl_drewN (bl_refl _) _) | exact hK.out _ _ ⟨_, h6, rfl⟩ (bl_refl _) | exact hK.out _ _ ⟨_, h7, rfl⟩ (bl_refl _) | exact hK.out _ _ rfl (bl_refl _) | exact hK.out _ _ rfl (by assumption) | exact hK.out _ _ (by assumption) (by assumption)
    case ht_wm =>
      intro s W hs hb
      have e0 : s 0 = _ := hs 0 (by decide)
      have e1 : s 1 = _ := hs 1 (by decide)
      obtain ⟨_, _, _, e2⟩ := hs 2 (by decide)
      have e3 : s 3 = _ := hs 3 (by decide)
      obtain ⟨_, _, e4⟩ := hs 4 (by decide)
      have e5 : s 5 = _ := hs 5 (by decide)
      obtain ⟨_, _, e6⟩ := hs 6 (by decide)
      obtain ⟨_, _, e7⟩ := hs 7 (by decide)
      obtain ⟨q, h8, e8⟩ := hs 8 (by decide)
      simp only [e0, e1, e2, e3, e4, e5, e6, e7, e8]
      clear hs e0 e1 e2 e3 e4 e5 e6 e7 e8
      replace z0_0 := keep hb z0_0; replace z0_1 := keep hb z0_1; replace z1_0 := keep hb z1_0; replace z1_1 := keep hb z1_1; replace z2_0 := keep hb z2_0; replace z2_1 := keep hb z2_1; replace z3_0 := keep hb z3_0; replace z3_1 := keep hb z3_1; replace k0 := keep hb k0; replace k1 := keep hb k1
      replace BF := bl_trans BF hb
      clear hb
      have tS := cl_is h8
      go_wp2_with (first | (go_at_call 28; refine (vMore_n _ ha tS hd).mono ?_; rintro e w' ⟨x, y, h9, rfl, hb⟩; replace z0_0 := keep hb z0_0; replace z0_1 := keep hb z0_1; replace z1_0 := keep hb z1_0; replace z1_1 := keep hb z1_1; replace z2_0 := keep hb z2_0; replace z2_1 := keep hb z2_1; replace z3_0 := keep hb z3_0; replace z3_1 := keep hb z3_1; replace BF := bl_trans BF hb; clear hb; replace fE := fun o => (BF.2 _).trans (fR o)))
      refine bodyPost_ret (v := .tuple #[.agg #[.float .f64 x, .float .f64 y], .float .f64 (clK .f64 q 0 4607182418800017408)]) (by simp [z3_0, z3_1, results, Try.results19, go_sem] <;> (first | exact ⟨⟨rfl, rfl⟩, rfl⟩ | exact ⟨rfl, rfl, rfl, rfl⟩ | exact ⟨rfl, rfl, rfl⟩ | exact ⟨rfl, rfl⟩ | rfl)) rfl ⟨_, _, _, by rw [he1]; exact h9, by rw [he2]; exact tS, rfl, ?_⟩
      have B := bl_trans B0 BF
      repeat (first | exact bl_refl _ | assumption | apply bl_drewN | apply bl_drew | apply bl_alloc | refine bl_set ?_ (by simp <;> omega) | refine bl_trans ?_ (by assumption))

theorem opposed_n {s t S T : Nat} (w : World) (hs : isF s S) (ht : isF t T) : Calls Try.prog 46 #[.float .f64 s, .float .f64 t] w fun e w' => e = .returned (.bool (opF S T)) ∧ w' = w := by
  have c1 := cmp_gt .f64
  have c2 := cmp_lt .f64
  rw [← op_is hs ht]
  unfold opF
  clear hs ht
  cases h1 : ltK .f64 0 s <;> cases h2 : ltK .f64 t 0 <;> cases h3 : ltK .f64 s 0 <;> cases h4 : ltK .f64 0 t
  all_goals
    go_enter Try.func46, Try.ntmps46
    go_wp2
    go_ret
    exact ⟨rfl, rfl⟩

set_option maxRecDepth 100000 in
set_option maxHeartbeats 1000000 in
theorem apart_n {ax ay bx b_y : Nat} {A B : Vp} (w : World) (ha : isP ax ay A) (hb_ : isP bx b_y B) : Calls Try.prog 70 #[.agg #[.float .f64 ax, .float .f64 ay], .agg #[.float .f64 bx, .float .f64 b_y]] w fun e w' => ∃ r, isN r ax ay bx b_y (apN A B) ∧ e = .returned (.agg #[.float .f64 r, .float .f64 ax, .float .f64 ay, .float .f64 bx, .float .f64 b_y]) ∧ Bel w w' := by
  have z0_0 : (w.alloc (.cells #[.float .f64 ax, .float .f64 ay] 28)).cell? ⟨w.heap.size, 0, none⟩ = some (.float .f64 ax) := by rw [World.cell?_alloc_new]; rfl
  replace z0_0 := up_alloc (o := .cells #[.float .f64 bx, .float .f64 b_y] 28) z0_0
  replace z0_0 := up_alloc (o := .cells #[.float .f64 0, .float .f64 0, .float .f64 0, .float .f64 0, .float .f64 0] 30) z0_0
  have z0_1 : (w.alloc (.cells #[.float .f64 ax, .float .f64 ay] 28)).cell? ⟨w.heap.size, 1, none⟩ = some (.float .f64 ay) := by rw [World.cell?_alloc_new]; rfl
  replace z0_1 := up_alloc (o := .cells #[.float .f64 bx, .float .f64 b_y] 28) z0_1
  replace z0_1 := up_alloc (o := .cells #[.float .f64 0, .float .f64 0, .float .f64 0, .float .f64 0, .float .f64 0] 30) z0_1
  have z1_0 : ((w.alloc (.cells #[.float .f64 ax, .float .f64 ay] 28)).alloc (.cells #[.float .f64 bx, .float .f64 b_y] 28)).cell? ⟨w.heap.size + 1, 0, none⟩ = some (.float .f64 bx) := by rw [← (show (w.alloc (.cells #[.float .f64 ax, .float .f64 ay] 28)).heap.size = w.heap.size + 1 by simp only [World.size_alloc]), World.cell?_alloc_new]; rfl
  replace z1_0 := up_alloc (o := .cells #[.float .f64 0, .float .f64 0, .float .f64 0, .float .f64 0, .float .f64 0] 30) z1_0
  have z1_1 : ((w.alloc (.cells #[.float .f64 ax, .float .f64 ay] 28)).alloc (.cells #[.float .f64 bx, .float .f64 b_y] 28)).cell? ⟨w.heap.size + 1, 1, none⟩ = some (.float .f64 b_y) := by rw [← (show (w.alloc (.cells #[.float .f64 ax, .float .f64 ay] 28)).heap.size = w.heap.size + 1 by simp only [World.size_alloc]), World.cell?_alloc_new]; rfl
  replace z1_1 := up_alloc (o := .cells #[.float .f64 0, .float .f64 0, .float .f64 0, .float .f64 0, .float .f64 0] 30) z1_1
  have z2_0 : (((w.alloc (.cells #[.float .f64 ax, .float .f64 ay] 28)).alloc (.cells #[.float .f64 bx, .float .f64 b_y] 28)).alloc (.cells #[.float .f64 0, .float .f64 0, .float .f64 0, .float .f64 0, .float .f64 0] 30)).cell? ⟨w.heap.size + 1 + 1, 0, none⟩ = some (.float .f64 0) := by rw [← (show ((w.alloc (.cells #[.float .f64 ax, .float .f64 ay] 28)).alloc (.cells #[.float .f64 bx, .float .f64 b_y] 28)).heap.size = w.heap.size + 1 + 1 by simp only [World.size_alloc]), World.cell?_alloc_new]; rfl
  have z2_1 : (((w.alloc (.cells #[.float .f64 ax, .float .f64 ay] 28)).alloc (.cells #[.float .f64 bx, .float .f64 b_y] 28)).alloc (.cells #[.float .f64 0, .float .f64 0, .float .f64 0, .float .f64 0, .float .f64 0] 30)).cell? ⟨w.heap.size + 1 + 1, 1, none⟩ = some (.float .f64 0) := by rw [← (show ((w.alloc (.cells #[.float .f64 ax, .float .f64 ay] 28)).alloc (.cells #[.float .f64 bx, .float .f64 b_y] 28)).heap.size = w.heap.size + 1 + 1 by simp only [World.size_alloc]), World.cell?_alloc_new]; rfl
  have z2_2 : (((w.alloc (.cells #[.float .f64 ax, .float .f64 ay] 28)).alloc (.cells #[.float .f64 bx, .float .f64 b_y] 28)).alloc (.cells #[.float .f64 0, .float .f64 0, .float .f64 0, .float .f64 0, .float .f64 0] 30)).cell? ⟨w.heap.size + 1 + 1, 2, none⟩ = some (.float .f64 0) := by rw [← (show ((w.alloc (.cells #[.float .f64 ax, .float .f64 ay] 28)).alloc (.cells #[.float .f64 bx, .float .f64 b_y] 28)).heap.size = w.heap.size + 1 + 1 by simp only [World.size_alloc]), World.cell?_alloc_new]; rfl
  have z2_3 : (((w.alloc (.cells #[.float .f64 ax, .float .f64 ay] 28)).alloc (.cells #[.float .f64 bx, .float .f64 b_y] 28)).alloc (.cells #[.float .f64 0, .float .f64 0, .float .f64 0, .float .f64 0, .float .f64 0] 30)).cell? ⟨w.heap.size + 1 + 1, 3, none⟩ = some (.float .f64 0) := by rw [← (show ((w.alloc (.cells #[.float .f64 ax, .float .f64 ay] 28)).alloc (.cells #[.float .f64 bx, .float .f64 b_y] 28)).heap.size = w.heap.size + 1 + 1 by simp only [World.size_alloc]), World.cell?_alloc_new]; rfl
  have z2_4 : (((w.alloc (.cells #[.float .f64 ax, .float .f64 ay] 28)).alloc (.cells #[.float .f64 bx, .float .f64 b_y] 28)).alloc (.cells #[.float .f64 0, .float .f64 0, .float .f64 0, .float .f64 0, .float .f64 0] 30)).cell? ⟨w.heap.size + 1 + 1, 4, none⟩ = some (.float .f64 0) := by rw [← (show ((w.alloc (.cells #[.float .f64 ax, .float .f64 ay] 28)).alloc (.cells #[.float .f64 bx, .float .f64 b_y] 28)).heap.size = w.heap.size + 1 + 1 by simp only [World.size_alloc]), World.cell?_alloc_new]; rfl
  have B0 : Bel w (((w.alloc (.cells #[.float .f64 ax, .float .f64 ay] 28)).alloc (.cells #[.float .f64 bx, .float .f64 b_y] 28)).alloc (.cells #[.float .f64 0, .float .f64 0, .float .f64 0, .float .f64 0, .float .f64 0] 30)) := bl_alloc (bl_alloc (bl_alloc (bl_refl w) _ _) _ _) _ _
  have fR : ∀ o, (((w.alloc (.cells #[.float .f64 ax, .float .f64 ay] 28)).alloc (.cells #[.float .f64 bx, .float .f64 b_y] 28)).alloc (.cells #[.float .f64 0, .float .f64 0, .float .f64 0, .float .f64 0, .float .f64 0] 30)).frozen? ⟨w.heap.size + 1 + 1, o, none⟩ = false := fun o => ((show Bel ((w.alloc (.cells #[.float .f64 ax, .float .f64 ay] 28)).alloc (.cells #[.float .f64 bx, .float .f64 b_y] 28)) (((w.alloc (.cells #[.float .f64 ax, .float .f64 ay] 28)).alloc (.cells #[.float .f64 bx, .float .f64 b_y] 28)).alloc (.cells #[.float .f64 0, .float .f64 0, .float .f64 0, .float .f64 0, .float .f64 0] 30)) by exact bl_alloc (bl_refl _) _ _).2 _).trans (fresh_frozen (by simp only [World.size_alloc]; exact Nat.le_refl _))
  go_enter Try.func70, Try.ntmps70
  go_wp2
  refine wp_region_ret 8 7 6 rfl (fun i v => match i with | 0 => v = .agg #[.float .f64 bx, .float .f64 b_y] | 1 => v = .agg #[.float .f64 ax, .float .f64 ay] | 2 => ∃ x y, isP x y (suF B A) ∧ v = .agg #[.float .f64 x, .float .f64 y] | 3 => ∃ r, isF r (lnF (suF B A)) ∧ v = .float .f64 r | 4 => v = .agg #[.float .f64 ax, .float .f64 ay] | 5 => v = .agg #[.float .f64 bx, .float .f64 b_y] | 6 => ∃ r, isF r (lnF (suF B A)) ∧ v = .agg #[.float .f64 r, .float .f64 ax, .float .f64 ay, .float .f64 bx, .float .f64 b_y] | _ => False) (putN (w.heap.size + 1 + 1) 5) ?A_wo (by kernel_rfl) (by kernel_rfl) (by kernel_rfl) (by decide) (by decide) ?hA_wo ?hst_wo ?hq_wo ?ht_wo
  case hA_wo =>
    intro s
    simp only [putL, dstO, Act.put, List.getElem?_toArray, List.getElem?_cons_zero, List.getElem?_cons_succ, Option.bind_some, List.setIfInBounds_toArray, List.set_cons_zero, List.set_cons_succ, if_true]
    all_goals exact rfl
  case hst_wo =>
    intro o ho s hs W hb K hK
    cases ho
    have u0 := keep hb z2_0; have u1 := keep hb z2_1; have u2 := keep hb z2_2; have u3 := keep hb z2_3; have u4 := keep hb z2_4; have u9 := fun o => (hb.2 ⟨w.heap.size + 1 + 1, o, none⟩).trans (fR o)
    obtain ⟨r, h6, e6⟩ := hs 6 (by decide) (by kernel_rfl)
    simp only [e6] at hK ⊢
    clear hs
    go_simp
    exact hK.out
  case hq_wo =>
    intro i o hi hne ho s hs W hb K hK
    have uz0_0 := once_keepN hb z0_0 (by simp only; omega); have uz0_1 := once_keepN hb z0_1 (by simp only; omega); have uz1_0 := once_keepN hb z1_0 (by simp only; omega); have uz1_1 := once_keepN hb z1_1 (by simp only; omega)
    rcases (show i = 0 ∨ i = 1 ∨ i = 2 ∨ i = 3 ∨ i = 4 ∨ i = 5 ∨ i = 6 ∨ i = 7 by omega) with rfl | rfl | rfl | rfl | rfl | rfl | rfl | rfl
    · cases ho
      simp only [Act.put, List.setIfInBounds_toArray, List.set_cons_zero, List.set_cons_succ] at hK
      clear hs hne
      go_simp
      all_goals (try go_wp2_with (first | (go_at_call 12; refine (vSub_n _ hb_ ha).mono ?_; rintro e w' ⟨x, y, h2, rfl, hb1⟩) | (go_at_call 11; refine (vLength_n _ h2).mono ?_; rintro e w' ⟨r, h3, rfl, hb1⟩)))
      all_goals first | exact hK.out _ _ ⟨_, _, h2, rfl⟩ hb1 | exact hK.out _ _ ⟨_, h3, rfl⟩ hb1 | exact hK.out _ _ ⟨_, h3, rfl⟩ (bl_refl _) | exact hK.out _ _ rfl (bl_refl _) | exact hK.out _ _ rfl (by assumption) | exact hK.out _ _ (by assumption) (by assumption)
    · cases ho
      simp only [Act.put, List.setIfInBounds_toArray, List.set_cons_zero, List.set_cons_succ] at hK
      clear hs hne
      go_simp
      all_goals (try go_wp2_with (first | (go_at_call 12; refine (vSub_n _ hb_ ha).mono ?_; rintro e w' ⟨x, y, h2, rfl, hb1⟩) | (go_at_call 11; refine (vLength_n _ h2).mono ?_; rintro e w' ⟨r, h3, rfl, hb1⟩)))
      all_goals first | exact hK.out _ _ ⟨_, _, h2, rfl⟩ hb1 | exact hK.out _ _ ⟨_, h3, rfl⟩ hb1 | exact hK.out _ _ ⟨_, h3, rfl⟩ (bl_refl _) | exact hK.out _ _ rfl (bl_refl _) | exact hK.out _ _ rfl (by assumption) | exact hK.out _ _ (by assumption) (by assumption)
    · cases ho
      have e0 : s 0 = _ := hs 0 (by decide) (by decide) (by kernel_rfl)
      have e1 : s 1 = _ := hs 1 (by decide) (by decide) (by kernel_rfl)
      simp only [e0, e1] at hK ⊢
      simp only [Act.put, List.setIfInBounds_toArray, List.set_cons_zero, List.set_cons_succ] at hK
      clear hs hne
      go_simp
      all_goals (try go_wp2_with (first | (go_at_call 12; refine (vSub_n _ hb_ ha).mono ?_; rintro e w' ⟨x, y, h2, rfl, hb1⟩) | (go_at_call 11; refine (vLength_n _ h2).mono ?_; rintro e w' ⟨r, h3, rfl, hb1⟩)))
      all_goals first | exact hK.out _ _ ⟨_, _, h2, rfl⟩ hb1 | exact hK.out _ _ ⟨_, h3, rfl⟩ hb1 | exact hK.out _ _ ⟨_, h3, rfl⟩ (bl_refl _) | exact hK.out _ _ rfl (bl_refl _) | exact hK.out _ _ rfl (by assumption) | exact hK.out _ _ (by assumption) (by assumption)
    · cases ho
      obtain ⟨x, y, h2, e2⟩ := hs 2 (by decide) (by decide) (by kernel_rfl)
      simp only [e2] at hK ⊢
      simp only [Act.put, List.setIfInBounds_toArray, List.set_cons_zero, List.set_cons_succ] at hK
      clear hs hne
      go_simp
      all_goals (try go_wp2_with (first | (go_at_call 12; refine (vSub_n _ hb_ ha).mono ?_; rintro e w' ⟨x, y, h2, rfl, hb1⟩) | (go_at_call 11; refine (vLength_n _ h2).mono ?_; rintro e w' ⟨r, h3, rfl, hb1⟩)))
      all_goals first | exact hK.out _ _ ⟨_, _, h2, rfl⟩ hb1 | exact hK.out _ _ ⟨_, h3, rfl⟩ hb1 | exact hK.out _ _ ⟨_, h3, rfl⟩ (bl_refl _) | exact hK.out _ _ rfl (bl_refl _) | exact hK.out _ _ rfl (by assumption) | exact hK.out _ _ (by assumption) (by assumption)
    · cases ho
      simp only [Act.put, List.setIfInBounds_toArray, List.set_cons_zero, List.set_cons_succ] at hK
      clear hs hne
      go_simp
      all_goals (try go_wp2_with (first | (go_at_call 12; refine (vSub_n _ hb_ ha).mono ?_; rintro e w' ⟨x, y, h2, rfl, hb1⟩) | (go_at_call 11; refine (vLength_n _ h2).mono ?_; rintro e w' ⟨r, h3, rfl, hb1⟩)))
      all_goals first | exact hK.out _ _ ⟨_, _, h2, rfl⟩ hb1 | exact hK.out _ _ ⟨_, h3, rfl⟩ hb1 | exact hK.out _ _ ⟨_, h3, rfl⟩ (bl_refl _) | exact hK.out _ _ rfl (bl_refl _) | exact hK.out _ _ rfl (by assumption) | exact hK.out _ _ (by assumption) (by assumption)
    · cases ho
      simp only [Act.put, List.setIfInBounds_toArray, List.set_cons_zero, List.set_cons_succ] at hK
      clear hs hne
      go_simp
      all_goals (try go_wp2_with (first | (go_at_call 12; refine (vSub_n _ hb_ ha).mono ?_; rintro e w' ⟨x, y, h2, rfl, hb1⟩) | (go_at_call 11; refine (vLength_n _ h2).mono ?_; rintro e w' ⟨r, h3, rfl, hb1⟩)))
      all_goals first | exact hK.out _ _ ⟨_, _, h2, rfl⟩ hb1 | exact hK.out _ _ ⟨_, h3, rfl⟩ hb1 | exact hK.out _ _ ⟨_, h3, rfl⟩ (bl_refl _) | exact hK.out _ _ rfl (bl_refl _) | exact hK.out _ _ rfl (by assumption) | exact hK.out _ _ (by assumption) (by assumption)
    · cases ho
      obtain ⟨r, h3, e3⟩ := hs 3 (by decide) (by decide) (by kernel_rfl)
      have e4 : s 4 = _ := hs 4 (by decide) (by decide) (by kernel_rfl)
      have e5 : s 5 = _ := hs 5 (by decide) (by decide) (by kernel_rfl)
      simp only [e3, e4, e5] at hK ⊢
      simp only [Act.put, List.setIfInBounds_toArray, List.set_cons_zero, List.set_cons_succ] at hK
      clear hs hne
      go_simp
      all_goals (try go_wp2_with (first | (go_at_call 12; refine (vSub_n _ hb_ ha).mono ?_; rintro e w' ⟨x, y, h2, rfl, hb1⟩) | (go_at_call 11; refine (vLength_n _ h2).mono ?_; rintro e w' ⟨r, h3, rfl, hb1⟩)))
      all_goals first | exact hK.out _ _ ⟨_, _, h2, rfl⟩ hb1 | exact hK.out _ _ ⟨_, h3, rfl⟩ hb1 | exact hK.out _ _ ⟨_, h3, rfl⟩ (bl_refl _) | exact hK.out _ _ rfl (bl_refl _) | exact hK.out _ _ rfl (by assumption) | exact hK.out _ _ (by assumption) (by assumption)
    · exact absurd rfl hne
  case ht_wo =>
    intro s hs W0 W hb0 hb
    have e0 : s 0 = _ := hs 0 (by decide) (by decide)
    have e1 : s 1 = _ := hs 1 (by decide) (by decide)
    obtain ⟨_, _, _, e2⟩ := hs 2 (by decide) (by decide)
    obtain ⟨_, _, e3⟩ := hs 3 (by decide) (by decide)
    have e4 : s 4 = _ := hs 4 (by decide) (by decide)
    have e5 : s 5 = _ := hs 5 (by decide) (by decide)
    obtain ⟨r, h6, e6⟩ := hs 6 (by decide) (by decide)
    simp only [e0, e1, e2, e3, e4, e5, e6]
    rw [e6] at hb
    clear hs e0 e1 e2 e3 e4 e5 e6
    have RA := putN_at (R := w.heap.size + 1 + 1) (W := W0) (v := .agg #[.float .f64 r, .float .f64 ax, .float .f64 ay, .float .f64 bx, .float .f64 b_y]) 5 (fun i hi => by rcases (show i = 0 ∨ i = 1 ∨ i = 2 ∨ i = 3 ∨ i = 4 by omega) with rfl | rfl | rfl | rfl | rfl <;> first | (rw [keep hb0 z2_0]; rfl) | (rw [keep hb0 z2_1]; rfl) | (rw [keep hb0 z2_2]; rfl) | (rw [keep hb0 z2_3]; rfl) | (rw [keep hb0 z2_4]; rfl))
    have R0 := keep hb (RA 0 (by decide)); have R1 := keep hb (RA 1 (by decide)); have R2 := keep hb (RA 2 (by decide)); have R3 := keep hb (RA 3 (by decide)); have R4 := keep hb (RA 4 (by decide))
    simp only [cellAt] at R0 R1 R2 R3 R4
    have BF := bl_trans (putN_bel (bl_trans B0 hb0) (show w.heap.size ≤ w.heap.size + 1 + 1 by omega) 5) hb
    go_wp2
    refine bodyPost_ret (v := .agg #[.float .f64 r, .float .f64 ax, .float .f64 ay, .float .f64 bx, .float .f64 b_y]) (by simp [R0, R1, R2, R3, R4, results, Try.results70, go_sem] <;> (first | exact ⟨rfl, rfl, rfl, rfl, rfl⟩ | rfl)) rfl ⟨r, ⟨h6, ha, hb_⟩, rfl, BF⟩
theorem nearer_n {nf1 na1 nb1 nc1 nd1 nf2 na2 nb2 nc2 nd2 : Nat} {n m : Nr} (w : World) (h1 : isN nf1 na1 nb1 nc1 nd1 (n)) (h2 : isN nf2 na2 nb2 nc2 nd2 (m)) : Calls Try.prog 53 #[.agg #[.float .f64 nf1, .float .f64 na1, .float .f64 nb1, .float .f64 nc1, .float .f64 nd1], .agg #[.float .f64 nf2, .float .f64 na2, .float .f64 nb2, .float .f64 nc2, .float .f64 nd2]] w fun e w' => ∃ nf3 na3 nb3 nc3 nd3, isN nf3 na3 nb3 nc3 nd3 (nrF n m) ∧ e = .returned (.agg #[.float .f64 nf3, .float .f64 na3, .float .f64 nb3, .float .f64 nc3, .float .f64 nd3]) ∧ Bel w w' := by
  have c2 := cmp_lt .f64
  obtain ⟨k1, k2⟩ := isN_nr h1 h2
  cases h : ltK .f64 nf2 nf1
  · have k2 := k2 h
    clear h1 h2 k1
    go_enter Try.func53, Try.ntmps53
    go_wp2
    refine bodyPost_ret (v := .agg #[.float .f64 nf1, .float .f64 na1, .float .f64 nb1, .float .f64 nc1, .float .f64 nd1]) (by simp [results, Try.results53, go_sem] <;> (first | exact ⟨rfl, rfl, rfl, rfl, rfl⟩ | rfl)) rfl ⟨_, _, _, _, _, k2, rfl, ?_⟩
    repeat (first | exact bl_refl _ | assumption | apply bl_drewN | apply bl_drew | apply bl_alloc | refine bl_set ?_ (by simp <;> omega) | refine bl_trans ?_ (by assumption))
  · have k1 := k1 h
    clear h1 h2 k2
    go_enter Try.func53, Try.ntmps53
    go_wp2
    refine bodyPost_ret (v := .agg #[.float .f64 nf2, .float .f64 na2, .float .f64 nb2, .float .f64 nc2, .float .f64 nd2]) (by simp [results, Try.results53, go_sem] <;> (first | exact ⟨rfl, rfl, rfl, rfl, rfl⟩ | rfl)) rfl ⟨_, _, _, _, _, k1, rfl, ?_⟩
    repeat (first | exact bl_refl _ | assumption | apply bl_drewN | apply bl_drew | apply bl_alloc | refine bl_set ?_ (by simp <;> omega) | refine bl_trans ?_ (by assumption))

set_option maxRecDepth 100000 in
set_option maxHeartbeats 1000000 in
theorem ends1_n {c d ax ay bx b_y ex ey : Nat} {A B E : Vp} (w : World) (c0 : w.cell? ⟨c, 0, none⟩ = some (.float .f64 ax)) (c1 : w.cell? ⟨c, 1, none⟩ = some (.float .f64 ay)) (d0 : w.cell? ⟨d, 0, none⟩ = some (.float .f64 bx)) (d1 : w.cell? ⟨d, 1, none⟩ = some (.float .f64 b_y)) (ha : isP ax ay A) (hb_ : isP bx b_y B) (he : isP ex ey E) :
    Calls Try.prog 69 #[.agg #[.float .f64 ex, .float .f64 ey], .pointer (some ⟨c, 0, none⟩), .pointer (some ⟨d, 0, none⟩)] w fun e w' => ∃ nf3 na3 nb3 nc3 nd3, isN nf3 na3 nb3 nc3 nd3 (n1F A B E) ∧ e = .returned (.agg #[.float .f64 nf3, .float .f64 na3, .float .f64 nb3, .float .f64 nc3, .float .f64 nd3]) ∧ Bel w w' := by
  have lc := World.block_lt_of_cell? _ _ c0
  have ld := World.block_lt_of_cell? _ _ d0
  simp only at lc ld
  have z0_0 : (w.alloc (.cells #[.float .f64 ex, .float .f64 ey] 28)).cell? ⟨w.heap.size, 0, none⟩ = some (.float .f64 ex) := by rw [World.cell?_alloc_new]; rfl
  replace z0_0 := up_alloc (o := .cells #[.float .f64 0, .float .f64 0, .float .f64 0, .float .f64 0, .float .f64 0] 30) z0_0
  have z0_1 : (w.alloc (.cells #[.float .f64 ex, .float .f64 ey] 28)).cell? ⟨w.heap.size, 1, none⟩ = some (.float .f64 ey) := by rw [World.cell?_alloc_new]; rfl
  replace z0_1 := up_alloc (o := .cells #[.float .f64 0, .float .f64 0, .float .f64 0, .float .f64 0, .float .f64 0] 30) z0_1
  have z1_0 : ((w.alloc (.cells #[.float .f64 ex, .float .f64 ey] 28)).alloc (.cells #[.float .f64 0, .float .f64 0, .float .f64 0, .float .f64 0, .float .f64 0] 30)).cell? ⟨w.heap.size + 1, 0, none⟩ = some (.float .f64 0) := by rw [← (show (w.alloc (.cells #[.float .f64 ex, .float .f64 ey] 28)).heap.size = w.heap.size + 1 by simp only [World.size_alloc]), World.cell?_alloc_new]; rfl
  have z1_1 : ((w.alloc (.cells #[.float .f64 ex, .float .f64 ey] 28)).alloc (.cells #[.float .f64 0, .float .f64 0, .float .f64 0, .float .f64 0, .float .f64 0] 30)).cell? ⟨w.heap.size + 1, 1, none⟩ = some (.float .f64 0) := by rw [← (show (w.alloc (.cells #[.float .f64 ex, .float .f64 ey] 28)).heap.size = w.heap.size + 1 by simp only [World.size_alloc]), World.cell?_alloc_new]; rfl
  have z1_2 : ((w.alloc (.cells #[.float .f64 ex, .float .f64 ey] 28)).alloc (.cells #[.float .f64 0, .float .f64 0, .float .f64 0, .float .f64 0, .float .f64 0] 30)).cell? ⟨w.heap.size + 1, 2, none⟩ = some (.float .f64 0) := by rw [← (show (w.alloc (.cells #[.float .f64 ex, .float .f64 ey] 28)).heap.size = w.heap.size + 1 by simp only [World.size_alloc]), World.cell?_alloc_new]; rfl
  have z1_3 : ((w.alloc (.cells #[.float .f64 ex, .float .f64 ey] 28)).alloc (.cells #[.float .f64 0, .float .f64 0, .float .f64 0, .float .f64 0, .float .f64 0] 30)).cell? ⟨w.heap.size + 1, 3, none⟩ = some (.float .f64 0) := by rw [← (show (w.alloc (.cells #[.float .f64 ex, .float .f64 ey] 28)).heap.size = w.heap.size + 1 by simp only [World.size_alloc]), World.cell?_alloc_new]; rfl
  have z1_4 : ((w.alloc (.cells #[.float .f64 ex, .float .f64 ey] 28)).alloc (.cells #[.float .f64 0, .float .f64 0, .float .f64 0, .float .f64 0, .float .f64 0] 30)).cell? ⟨w.heap.size + 1, 4, none⟩ = some (.float .f64 0) := by rw [← (show (w.alloc (.cells #[.float .f64 ex, .float .f64 ey] 28)).heap.size = w.heap.size + 1 by simp only [World.size_alloc]), World.cell?_alloc_new]; rfl
  have B0 : Bel w ((w.alloc (.cells #[.float .f64 ex, .float .f64 ey] 28)).alloc (.cells #[.float .f64 0, .float .f64 0, .float .f64 0, .float .f64 0, .float .f64 0] 30)) := bl_alloc (bl_alloc (bl_refl w) _ _) _ _
  have fR : ∀ o, ((w.alloc (.cells #[.float .f64 ex, .float .f64 ey] 28)).alloc (.cells #[.float .f64 0, .float .f64 0, .float .f64 0, .float .f64 0, .float .f64 0] 30)).frozen? ⟨w.heap.size + 1, o, none⟩ = false := fun o => ((show Bel (w.alloc (.cells #[.float .f64 ex, .float .f64 ey] 28)) ((w.alloc (.cells #[.float .f64 ex, .float .f64 ey] 28)).alloc (.cells #[.float .f64 0, .float .f64 0, .float .f64 0, .float .f64 0, .float .f64 0] 30)) by repeat (first | exact bl_refl _ | apply bl_alloc)).2 _).trans (fresh_frozen (by simp only [World.size_alloc]; exact Nat.le_refl _))
  replace c0 := keep B0 c0
  replace c1 := keep B0 c1
  replace d0 := keep B0 d0
  replace d1 := keep B0 d1
  go_enter Try.func69, Try.ntmps69
  go_wp2_with (first | (go_at_call 19; refine (point_n _ ha hb_ he).mono ?_; rintro e w1 ⟨x, y, t, hq, ht, rfl, hb⟩; replace z0_0 : w1.cell? ⟨w.heap.size, 0, none⟩ = some (.float .f64 ex) := keep hb (by first | exact z0_0 | go_keep); replace z0_1 : w1.cell? ⟨w.heap.size, 1, none⟩ = some (.float .f64 ey) := keep hb (by first | exact z0_1 | go_keep); replace z1_0 : w1.cell? ⟨w.heap.size + 1, 0, none⟩ = some (.float .f64 0) := keep hb (by first | exact z1_0 | go_keep); replace z1_1 : w1.cell? ⟨w.heap.size + 1, 1, none⟩ = some (.float .f64 0) := keep hb (by first | exact z1_1 | go_keep); replace z1_2 : w1.cell? ⟨w.heap.size + 1, 2, none⟩ = some (.float .f64 0) := keep hb (by first | exact z1_2 | go_keep); replace z1_3 : w1.cell? ⟨w.heap.size + 1, 3, none⟩ = some (.float .f64 0) := keep hb (by first | exact z1_3 | go_keep); replace z1_4 : w1.cell? ⟨w.heap.size + 1, 4, none⟩ = some (.float .f64 0) := keep hb (by first | exact z1_4 | go_keep); clear c0 c1 d0 d1 lc ld; have BF := hb; clear hb; have hz := BF.size; simp only [World.size_alloc] at hz; have l0 : w.heap.size < w1.heap.size := (by omega); have l1 : w.heap.size + 1 < w1.heap.size := (by omega)) | (go_at_call 70; refine (apart_n _ hq he).mono ?_; rintro e w2 ⟨r, hN, rfl, hb⟩; replace z0_0 : w2.cell? ⟨w.heap.size, 0, none⟩ = some (.float .f64 ex) := keep hb (by first | exact z0_0 | go_keep); replace z0_1 : w2.cell? ⟨w.heap.size, 1, none⟩ = some (.float .f64 ey) := keep hb (by first | exact z0_1 | go_keep); replace z1_0 : w2.cell? ⟨w.heap.size + 1, 0, none⟩ = some (.float .f64 0) := keep hb (by first | exact z1_0 | go_keep); replace z1_1 : w2.cell? ⟨w.heap.size + 1, 1, none⟩ = some (.float .f64 0) := keep hb (by first | exact z1_1 | go_keep); replace z1_2 : w2.cell? ⟨w.heap.size + 1, 2, none⟩ = some (.float .f64 0) := keep hb (by first | exact z1_2 | go_keep); replace z1_3 : w2.cell? ⟨w.heap.size + 1, 3, none⟩ = some (.float .f64 0) := keep hb (by first | exact z1_3 | go_keep); replace z1_4 : w2.cell? ⟨w.heap.size + 1, 4, none⟩ = some (.float .f64 0) := keep hb (by first | exact z1_4 | go_keep); replace BF := bl_trans (by repeat (first | exact BF | apply bl_alloc | refine bl_set ?_ (by (try simp only [World.size_alloc]); omega))) hb; clear hb; have fE := fun o => (BF.2 _).trans (fR o)))
  obtain ⟨X, hX, r0, r1, r2, r3, r4, -, bX⟩ := put5_all (p := .float .f64 r) (q := .float .f64 x) (r := .float .f64 y) (s := .float .f64 ex) (t := .float .f64 ey) z1_0 z1_1 z1_2 z1_3 z1_4
  rw [← hX]
  refine bodyPost_ret (v := .agg #[.float .f64 r, .float .f64 x, .float .f64 y, .float .f64 ex, .float .f64 ey]) (by simp [r0, r1, r2, r3, r4, results, Try.results69, go_sem] <;> (first | exact ⟨rfl, rfl, rfl, rfl, rfl⟩ | rfl)) rfl ⟨_, _, _, _, _, hN, rfl, bX _ (bl_trans B0 BF) (by omega)⟩

set_option maxRecDepth 100000 in
set_option maxHeartbeats 1000000 in
theorem ends2_n {c d ax ay bx b_y ex ey : Nat} {A B E : Vp} (w : World) (c0 : w.cell? ⟨c, 0, none⟩ = some (.float .f64 ax)) (c1 : w.cell? ⟨c, 1, none⟩ = some (.float .f64 ay)) (d0 : w.cell? ⟨d, 0, none⟩ = some (.float .f64 bx)) (d1 : w.cell? ⟨d, 1, none⟩ = some (.float .f64 b_y)) (ha : isP ax ay A) (hb_ : isP bx b_y B) (he : isP ex ey E) :
    Calls Try.prog 71 #[.agg #[.float .f64 ex, .float .f64 ey], .pointer (some ⟨c, 0, none⟩), .pointer (some ⟨d, 0, none⟩)] w fun e w' => ∃ nf3 na3 nb3 nc3 nd3, isN nf3 na3 nb3 nc3 nd3 (n0F E A B) ∧ e = .returned (.agg #[.float .f64 nf3, .float .f64 na3, .float .f64 nb3, .float .f64 nc3, .float .f64 nd3]) ∧ Bel w w' := by
  have lc := World.block_lt_of_cell? _ _ c0
  have ld := World.block_lt_of_cell? _ _ d0
  simp only at lc ld
  have z0_0 : (w.alloc (.cells #[.float .f64 ex, .float .f64 ey] 28)).cell? ⟨w.heap.size, 0, none⟩ = some (.float .f64 ex) := by rw [World.cell?_alloc_new]; rfl
  replace z0_0 := up_alloc (o := .cells #[.float .f64 0, .float .f64 0, .float .f64 0, .float .f64 0, .float .f64 0] 30) z0_0
  have z0_1 : (w.alloc (.cells #[.float .f64 ex, .float .f64 ey] 28)).cell? ⟨w.heap.size, 1, none⟩ = some (.float .f64 ey) := by rw [World.cell?_alloc_new]; rfl
  replace z0_1 := up_alloc (o := .cells #[.float .f64 0, .float .f64 0, .float .f64 0, .float .f64 0, .float .f64 0] 30) z0_1
  have z1_0 : ((w.alloc (.cells #[.float .f64 ex, .float .f64 ey] 28)).alloc (.cells #[.float .f64 0, .float .f64 0, .float .f64 0, .float .f64 0, .float .f64 0] 30)).cell? ⟨w.heap.size + 1, 0, none⟩ = some (.float .f64 0) := by rw [← (show (w.alloc (.cells #[.float .f64 ex, .float .f64 ey] 28)).heap.size = w.heap.size + 1 by simp only [World.size_alloc]), World.cell?_alloc_new]; rfl
  have z1_1 : ((w.alloc (.cells #[.float .f64 ex, .float .f64 ey] 28)).alloc (.cells #[.float .f64 0, .float .f64 0, .float .f64 0, .float .f64 0, .float .f64 0] 30)).cell? ⟨w.heap.size + 1, 1, none⟩ = some (.float .f64 0) := by rw [← (show (w.alloc (.cells #[.float .f64 ex, .float .f64 ey] 28)).heap.size = w.heap.size + 1 by simp only [World.size_alloc]), World.cell?_alloc_new]; rfl
  have z1_2 : ((w.alloc (.cells #[.float .f64 ex, .float .f64 ey] 28)).alloc (.cells #[.float .f64 0, .float .f64 0, .float .f64 0, .float .f64 0, .float .f64 0] 30)).cell? ⟨w.heap.size + 1, 2, none⟩ = some (.float .f64 0) := by rw [← (show (w.alloc (.cells #[.float .f64 ex, .float .f64 ey] 28)).heap.size = w.heap.size + 1 by simp only [World.size_alloc]), World.cell?_alloc_new]; rfl
  have z1_3 : ((w.alloc (.cells #[.float .f64 ex, .float .f64 ey] 28)).alloc (.cells #[.float .f64 0, .float .f64 0, .float .f64 0, .float .f64 0, .float .f64 0] 30)).cell? ⟨w.heap.size + 1, 3, none⟩ = some (.float .f64 0) := by rw [← (show (w.alloc (.cells #[.float .f64 ex, .float .f64 ey] 28)).heap.size = w.heap.size + 1 by simp only [World.size_alloc]), World.cell?_alloc_new]; rfl
  have z1_4 : ((w.alloc (.cells #[.float .f64 ex, .float .f64 ey] 28)).alloc (.cells #[.float .f64 0, .float .f64 0, .float .f64 0, .float .f64 0, .float .f64 0] 30)).cell? ⟨w.heap.size + 1, 4, none⟩ = some (.float .f64 0) := by rw [← (show (w.alloc (.cells #[.float .f64 ex, .float .f64 ey] 28)).heap.size = w.heap.size + 1 by simp only [World.size_alloc]), World.cell?_alloc_new]; rfl
  have B0 : Bel w ((w.alloc (.cells #[.float .f64 ex, .float .f64 ey] 28)).alloc (.cells #[.float .f64 0, .float .f64 0, .float .f64 0, .float .f64 0, .float .f64 0] 30)) := bl_alloc (bl_alloc (bl_refl w) _ _) _ _
  have fR : ∀ o, ((w.alloc (.cells #[.float .f64 ex, .float .f64 ey] 28)).alloc (.cells #[.float .f64 0, .float .f64 0, .float .f64 0, .float .f64 0, .float .f64 0] 30)).frozen? ⟨w.heap.size + 1, o, none⟩ = false := fun o => ((show Bel (w.alloc (.cells #[.float .f64 ex, .float .f64 ey] 28)) ((w.alloc (.cells #[.float .f64 ex, .float .f64 ey] 28)).alloc (.cells #[.float .f64 0, .float .f64 0, .float .f64 0, .float .f64 0, .float .f64 0] 30)) by repeat (first | exact bl_refl _ | apply bl_alloc)).2 _).trans (fresh_frozen (by simp only [World.size_alloc]; exact Nat.le_refl _))
  replace c0 := keep B0 c0
  replace c1 := keep B0 c1
  replace d0 := keep B0 d0
  replace d1 := keep B0 d1
  go_enter Try.func71, Try.ntmps71
  go_wp2_with (first | (go_at_call 19; refine (point_n _ ha hb_ he).mono ?_; rintro e w1 ⟨x, y, t, hq, ht, rfl, hb⟩; replace z0_0 : w1.cell? ⟨w.heap.size, 0, none⟩ = some (.float .f64 ex) := keep hb (by first | exact z0_0 | go_keep); replace z0_1 : w1.cell? ⟨w.heap.size, 1, none⟩ = some (.float .f64 ey) := keep hb (by first | exact z0_1 | go_keep); replace z1_0 : w1.cell? ⟨w.heap.size + 1, 0, none⟩ = some (.float .f64 0) := keep hb (by first | exact z1_0 | go_keep); replace z1_1 : w1.cell? ⟨w.heap.size + 1, 1, none⟩ = some (.float .f64 0) := keep hb (by first | exact z1_1 | go_keep); replace z1_2 : w1.cell? ⟨w.heap.size + 1, 2, none⟩ = some (.float .f64 0) := keep hb (by first | exact z1_2 | go_keep); replace z1_3 : w1.cell? ⟨w.heap.size + 1, 3, none⟩ = some (.float .f64 0) := keep hb (by first | exact z1_3 | go_keep); replace z1_4 : w1.cell? ⟨w.heap.size + 1, 4, none⟩ = some (.float .f64 0) := keep hb (by first | exact z1_4 | go_keep); clear c0 c1 d0 d1 lc ld; have BF := hb; clear hb; have hz := BF.size; simp only [World.size_alloc] at hz; have l0 : w.heap.size < w1.heap.size := (by omega); have l1 : w.heap.size + 1 < w1.heap.size := (by omega)) | (go_at_call 70; refine (apart_n _ he hq).mono ?_; rintro e w2 ⟨r, hN, rfl, hb⟩; replace z0_0 : w2.cell? ⟨w.heap.size, 0, none⟩ = some (.float .f64 ex) := keep hb (by first | exact z0_0 | go_keep); replace z0_1 : w2.cell? ⟨w.heap.size, 1, none⟩ = some (.float .f64 ey) := keep hb (by first | exact z0_1 | go_keep); replace z1_0 : w2.cell? ⟨w.heap.size + 1, 0, none⟩ = some (.float .f64 0) := keep hb (by first | exact z1_0 | go_keep); replace z1_1 : w2.cell? ⟨w.heap.size + 1, 1, none⟩ = some (.float .f64 0) := keep hb (by first | exact z1_1 | go_keep); replace z1_2 : w2.cell? ⟨w.heap.size + 1, 2, none⟩ = some (.float .f64 0) := keep hb (by first | exact z1_2 | go_keep); replace z1_3 : w2.cell? ⟨w.heap.size + 1, 3, none⟩ = some (.float .f64 0) := keep hb (by first | exact z1_3 | go_keep); replace z1_4 : w2.cell? ⟨w.heap.size + 1, 4, none⟩ = some (.float .f64 0) := keep hb (by first | exact z1_4 | go_keep); replace BF := bl_trans (by repeat (first | exact BF | apply bl_alloc | refine bl_set ?_ (by (try simp only [World.size_alloc]); omega))) hb; clear hb; have fE := fun o => (BF.2 _).trans (fR o)))
  obtain ⟨X, hX, r0, r1, r2, r3, r4, -, bX⟩ := put5_all (p := .float .f64 r) (q := .float .f64 ex) (r := .float .f64 ey) (s := .float .f64 x) (t := .float .f64 y) z1_0 z1_1 z1_2 z1_3 z1_4
  rw [← hX]
  refine bodyPost_ret (v := .agg #[.float .f64 r, .float .f64 ex, .float .f64 ey, .float .f64 x, .float .f64 y]) (by simp [r0, r1, r2, r3, r4, results, Try.results71, go_sem] <;> (first | exact ⟨rfl, rfl, rfl, rfl, rfl⟩ | rfl)) rfl ⟨_, _, _, _, _, hN, rfl, bX _ (bl_trans B0 BF) (by omega)⟩

end Go.Proofs.Ythbdckjfekimdab
