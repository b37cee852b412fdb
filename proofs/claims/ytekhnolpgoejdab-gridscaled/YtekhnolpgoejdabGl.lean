/-
  What each function of package grid answers: one contract a function.
-/
import Derived.Test.YtekhnolpgoejdabNum
import Derived.Test.YtekhnolpgoejdabSwh
import Derived.Test.YtekhnolpgoejdabBel
import Derived.Test.YtekhnolpgoejdabOnc5
import Derived.Test.YtekhnolpgoejdabLay
import Derived.Laws.FloatArith
import Derived.Laws.StructEq
import Derived.Deep.DeepCutAuto
import Derived.Laws.MakeOwn
import Derived.Shelf.SlSortCmp.NoneTotal
import Derived.Below
import Derived.BigQuiet
import Derived.OwnWalk
import Derived.Laws.AppendOwn
import Derived.Laws.AppendOwnNone
import Derived.WalkKit
import Derived.WalkLawsBesides
import Derived.WalkSpells
import Derived.ProofKit
import Derived.OpenShut
import Derived.Deep.RegionHeld3
import Derived.Deep.LoopGhost
namespace Go.Proofs.Ytekhnolpgoejdab
open Go.ChangeShapes Go.WideShapes Go.ChangeAt Go.RowKit Go.Shelf Go.Lib Go.Sort
set_option linter.unusedVariables false
set_option linter.unusedSimpArgs false


/-- nothing of what was there has turned, and no draw is taken back -/
def BelD (a b : World) : Prop := Bel a b ∧ a.drawn ≤ b.drawn
theorem bd_refl {a : World} : BelD a a := ⟨bl_refl _, Nat.le_refl _⟩
theorem bd_drew {a : World} : BelD a a.drew := ⟨bl_drew (bl_refl _), Nat.le_succ _⟩
theorem bd_trans {a b c : World} (h : BelD a b) (k : BelD b c) : BelD a c := ⟨bl_trans h.1 k.1, Nat.le_trans h.2 k.2⟩
theorem grow_of {W w' : World} (h : Below W.heap.size W w') (hd : W.drawn ≤ w'.drawn) : ∃ q os', w' = grow (W.drewN q) os' := by
  refine ⟨w'.drawn - W.drawn, w'.heap.extract W.heap.size w'.heap.size, ?_⟩
  obtain ⟨hp, tp, dr, os, ou⟩ := w'
  obtain ⟨h1, h2, h3, h4, h5⟩ := h
  simp only at h1 h2 h3 h4 h5 hd
  subst h1 h2 h3
  unfold grow World.drewN
  simp only [World.mk.injEq, true_and, and_true]
  refine ⟨?_, by omega⟩
  apply Array.ext_getElem?
  intro k
  rcases Nat.lt_or_ge k W.heap.size with hk | hk
  · rw [h5 k hk, Array.getElem?_append_left hk]
  · rw [Array.getElem?_append_right hk]
    rcases Nat.lt_or_ge k hp.size with hk' | hk'
    · rw [Array.getElem?_extract, if_pos (by omega)]; congr 1; omega
    · rw [Array.getElem?_eq_none hk', Array.getElem?_eq_none (by simp; omega)]
theorem isNaN_int (x : Int) (w : World) : Calls Try.prog 48 #[.int .i64 x] w fun e w' => e = .returned (.bool false) ∧ w' = w := by
  go_enter Try.func48, Try.ntmps48
  go_wp2
  go_ret
  exact ⟨by simp, rfl⟩
def cI (x y : Int) : Int := if x < y then -1 else if y < x then 1 else 0
theorem compareI_s (x y : Int) (w : World) : Calls Try.prog 25 #[.int .i64 x, .int .i64 y] w fun e w' => e = .returned (.int .i64 (cI x y)) ∧ w' = w := by
  by_cases h1 : x < y
  · go_enter Try.func25, Try.ntmps25
    go_wp2_with (first | (go_at_call 48; (with_reducible refine (isNaN_int _ _).mono ?_); rintro e w' ⟨rfl, hw⟩; rw [hw]))
    go_ret
    exact ⟨by unfold cI; rw [if_pos h1]; rfl, rfl⟩
  · by_cases h2 : y < x
    all_goals
      go_enter Try.func25, Try.ntmps25
      go_wp2_with (first | (go_at_call 48; (with_reducible refine (isNaN_int _ _).mono ?_); rintro e w' ⟨rfl, hw⟩; rw [hw]))
      go_ret
      exact ⟨by unfold cI; rw [if_neg (show ¬ x < y by omega)]; (first | (rw [if_pos (show y < x by omega)]; rfl) | (rw [if_neg (show ¬ y < x by omega)]; rfl)), rfl⟩
theorem or_s (g : Nat) (a b : Int) (w : World) (h0 : w.cell? ⟨g, 0, none⟩ = some (.int .i64 a)) (h1 : w.cell? ⟨g, 1, none⟩ = some (.int .i64 b)) : Calls Try.prog 24 #[.slice (some ⟨g, 0, none⟩) 2 2] w fun e w' => e = .returned (.int .i64 (if a = 0 then b else a)) ∧ w' = w := by
  obtain ⟨r, hr⟩ : ∃ r, (if a = 0 then b else a) = r := ⟨_, rfl⟩
  rw [hr]
  have HR : Hid ((if a = 0 then b else a) = r) := hr
  clear hr
  go_enter Try.func24, Try.ntmps24
  go_wp2
  go_loopg [8] 2 (fun kx s8 wr => wr = w ∧ ((s8 = .int .i64 0 ∧ 2 ≤ kx) ∨ (s8 = .int .i64 1 ∧ 1 ≤ kx ∧ a = 0) ∨ (s8 = .int .i64 2 ∧ a = 0 ∧ b = 0)))
  case atStart => exact ⟨rfl, .inl ⟨rfl, by omega⟩⟩
  case round =>
    obtain ⟨hW, ⟨rfl, hk⟩ | ⟨rfl, hk, ha⟩ | ⟨rfl, ha, hb⟩⟩ := hrel
    · by_cases ha : a = 0
      · have hne : (a != 0) = false := by simp [ha]
        have HA : Hid (a = 0) := ha
        clear ha
        go_wp2
        go_roundg 1
        case measure => omega
        case rel => exact ⟨rfl, .inr (.inl ⟨by go_num, by omega, HA.out⟩)⟩
      · have hne : (a != 0) = true := by simp [ha]
        have hr := HR.out
        rw [if_neg ha] at hr
        clear ha HR
        subst hr
        go_wp2
        go_ret
        exact ⟨rfl, rfl⟩
    · have hr := HR.out
      rw [if_pos ha] at hr
      have HA : Hid (a = 0) := ha
      clear ha
      by_cases hb : b = 0
      · have hne : (b != 0) = false := by simp [hb]
        have HB : Hid (b = 0) := hb
        clear hb hr
        go_wp2
        go_roundg 0
        case measure => omega
        case rel => exact ⟨rfl, .inr (.inr ⟨by go_num, HA.out, HB.out⟩)⟩
      · have hne : (b != 0) = true := by simp [hb]
        clear hb
        subst hr
        go_wp2
        go_ret
        exact ⟨rfl, rfl⟩
    · have hr := HR.out
      rw [if_pos ha, hb] at hr
      clear ha hb HR
      subst hr
      go_wp2
      go_ret
      exact ⟨rfl, rfl⟩
def cP (x y : Nat × Nat) : Int := if cI x.1 y.1 = 0 then cI x.2 y.2 else cI x.1 y.1
set_option maxRecDepth 100000 in
set_option maxHeartbeats 4000000 in
theorem rising14_s (x y : Nat × Nat) (w : World) : Calls Try.prog 23 #[.agg #[.int .i64 (x.1 : Int), .int .i64 (x.2 : Int)], .agg #[.int .i64 (y.1 : Int), .int .i64 (y.2 : Int)]] w fun e w' => e = .returned (.int .i64 (cP x y)) ∧ ∃ q os', w' = grow (w.drewN q) os' := by
  unfold cP
  generalize (x.1 : Int) = x1
  generalize (x.2 : Int) = x2
  generalize (y.1 : Int) = y1
  generalize (y.2 : Int) = y2
  obtain ⟨r1, h1⟩ : ∃ r, cI x1 y1 = r := ⟨_, rfl⟩
  obtain ⟨r2, h2⟩ : ∃ r, cI x2 y2 = r := ⟨_, rfl⟩
  have k1 : ∀ W, Calls Try.prog 25 #[.int .i64 x1, .int .i64 y1] W fun e w' => e = .returned (.int .i64 r1) ∧ w' = W := fun W => by rw [← h1]; exact compareI_s _ _ W
  have k2 : ∀ W, Calls Try.prog 25 #[.int .i64 x2, .int .i64 y2] W fun e w' => e = .returned (.int .i64 r2) ∧ w' = W := fun W => by rw [← h2]; exact compareI_s _ _ W
  rw [h1, h2]
  clear h1 h2
  obtain ⟨r, hr⟩ : ∃ r, (if r1 = 0 then r2 else r1) = r := ⟨_, rfl⟩
  have kO : ∀ g W, W.cell? ⟨g, 0, none⟩ = some (.int .i64 r1) → W.cell? ⟨g, 1, none⟩ = some (.int .i64 r2) → Calls Try.prog 24 #[.slice (some ⟨g, 0, none⟩) 2 2] W fun e w' => e = .returned (.int .i64 r) ∧ w' = W := fun g W q1 q2 => by rw [← hr]; exact or_s g r1 r2 W q1 q2
  rw [hr]
  clear hr
  obtain ⟨WA, hWA⟩ : ∃ WA, WA = w.alloc (.cells #[.int .i64 x1, .int .i64 x2] 37) := ⟨_, rfl⟩
  have a0 : WA.cell? ⟨w.heap.size, 0, none⟩ = some (.int .i64 x1) := by rw [hWA, World.cell?_alloc_new]; rfl
  have a1 : WA.cell? ⟨w.heap.size, 1, none⟩ = some (.int .i64 x2) := by rw [hWA, World.cell?_alloc_new]; rfl
  have hsA : WA.heap.size = w.heap.size + 1 := by rw [hWA]; exact World.size_alloc _ _
  have b0 : (WA.alloc (.cells #[.int .i64 y1, .int .i64 y2] 37)).cell? ⟨w.heap.size + 1, 0, none⟩ = some (.int .i64 y1) := by rw [← hsA, World.cell?_alloc_new]; rfl
  have b1 : (WA.alloc (.cells #[.int .i64 y1, .int .i64 y2] 37)).cell? ⟨w.heap.size + 1, 1, none⟩ = some (.int .i64 y2) := by rw [← hsA, World.cell?_alloc_new]; rfl
  replace a0 := keepB (bl_alloc (bl_refl WA) #[.int .i64 y1, .int .i64 y2] 37) a0
  replace a1 := keepB (bl_alloc (bl_refl WA) #[.int .i64 y1, .int .i64 y2] 37) a1
  rw [hWA] at a0 a1 b0 b1
  clear hWA hsA
  go_enter Try.func23, Try.ntmps23
  go_wp2
  refine wp_region_monoN 13 rfl (fun i W v => match i with | 0 => v = .pointer (some ⟨w.heap.size, 0, none⟩) | 1 => v = .int .i64 x1 | 2 => v = .pointer (some ⟨w.heap.size + 1, 0, none⟩) | 3 => v = .int .i64 y1 | 4 => v = .int .i64 r1 | 5 => v = .pointer (some ⟨w.heap.size, 1, none⟩) | 6 => v = .int .i64 x2 | 7 => v = .pointer (some ⟨w.heap.size + 1, 1, none⟩) | 8 => v = .int .i64 y2 | 9 => v = .int .i64 r2 | 10 => ∃ g, v = .slice (some ⟨g, 0, none⟩) 2 2 ∧ W.cell? ⟨g, 0, none⟩ = some (.int .i64 r1) ∧ W.cell? ⟨g, 1, none⟩ = some (.int .i64 r2) | 11 => v = .int .i64 r | 12 => v = .int .i64 r | _ => False) BelD bd_drew (fun _ _ _ => bd_trans) ?A_wz (by kernel_rfl) (by kernel_rfl) ?hA_wz ?hmo_wz ?hq_wz ?ht_wz
  case hA_wz =>
    intro s
    simp only [putL, dstO, Act.put, List.getElem?_toArray, List.getElem?_cons_zero, List.getElem?_cons_succ, Option.bind_some, List.setIfInBounds_toArray, List.set_cons_zero, List.set_cons_succ, if_true]
    all_goals exact rfl
  case hmo_wz =>
    intro i W W' v hi _ hb h
    rcases (show i = 0 ∨ i = 1 ∨ i = 2 ∨ i = 3 ∨ i = 4 ∨ i = 5 ∨ i = 6 ∨ i = 7 ∨ i = 8 ∨ i = 9 ∨ i = 10 ∨ i = 11 ∨ i = 12 by omega) with rfl | rfl | rfl | rfl | rfl | rfl | rfl | rfl | rfl | rfl | rfl | rfl | rfl
    all_goals first | exact h | (obtain ⟨g, e, c0, c1⟩ := h; exact ⟨g, e, keepB hb.1 c0, keepB hb.1 c1⟩)
  case hq_wz =>
    intro i o hi ho s W hs hb K hK
    have u0 := keepB hb.1 a0; have u1 := keepB hb.1 a1; have u2 := keepB hb.1 b0; have u3 := keepB hb.1 b1
    rcases (show i = 0 ∨ i = 1 ∨ i = 2 ∨ i = 3 ∨ i = 4 ∨ i = 5 ∨ i = 6 ∨ i = 7 ∨ i = 8 ∨ i = 9 ∨ i = 10 ∨ i = 11 ∨ i = 12 by omega) with rfl | rfl | rfl | rfl | rfl | rfl | rfl | rfl | rfl | rfl | rfl | rfl | rfl
    · cases ho
      simp only [Act.put, List.setIfInBounds_toArray, List.set_cons_zero, List.set_cons_succ] at hK
      clear hs
      go_simp
      all_goals (try go_wp2_with (first | (go_at_call 25; first | ((with_reducible refine (k1 _).mono ?_); rintro e w' ⟨rfl, hw⟩; rw [hw]) | ((with_reducible refine (k2 _).mono ?_); rintro e w' ⟨rfl, hw⟩; rw [hw])) | (go_at_call 24; (with_reducible refine (kO g _ c0 c1).mono ?_); rintro e w' ⟨rfl, hw⟩; rw [hw])))
      all_goals first | (refine hK.out _ _ ⟨_, rfl, ?_, ?_⟩ ⟨bl_alloc (bl_refl _) _ _, Nat.le_refl _⟩ <;> (rw [World.cell?_alloc_new]; rfl)) | with_reducible exact hK.out _ _ rfl bd_refl | exact hK.out _ _ rfl (by assumption) | exact hK.out _ _ (by assumption) (by assumption)
    · cases ho
      have e0 : s 0 = _ := hs 0 (by decide) (by kernel_rfl)
      simp only [e0] at hK ⊢
      simp only [Act.put, List.setIfInBounds_toArray, List.set_cons_zero, List.set_cons_succ] at hK
      clear hs
      go_simp
      all_goals (try go_wp2_with (first | (go_at_call 25; first | ((with_reducible refine (k1 _).mono ?_); rintro e w' ⟨rfl, hw⟩; rw [hw]) | ((with_reducible refine (k2 _).mono ?_); rintro e w' ⟨rfl, hw⟩; rw [hw])) | (go_at_call 24; (with_reducible refine (kO g _ c0 c1).mono ?_); rintro e w' ⟨rfl, hw⟩; rw [hw])))
      all_goals first | (refine hK.out _ _ ⟨_, rfl, ?_, ?_⟩ ⟨bl_alloc (bl_refl _) _ _, Nat.le_refl _⟩ <;> (rw [World.cell?_alloc_new]; rfl)) | with_reducible exact hK.out _ _ rfl bd_refl | exact hK.out _ _ rfl (by assumption) | exact hK.out _ _ (by assumption) (by assumption)
    · cases ho
      simp only [Act.put, List.setIfInBounds_toArray, List.set_cons_zero, List.set_cons_succ] at hK
      clear hs
      go_simp
      all_goals (try go_wp2_with (first | (go_at_call 25; first | ((with_reducible refine (k1 _).mono ?_); rintro e w' ⟨rfl, hw⟩; rw [hw]) | ((with_reducible refine (k2 _).mono ?_); rintro e w' ⟨rfl, hw⟩; rw [hw])) | (go_at_call 24; (with_reducible refine (kO g _ c0 c1).mono ?_); rintro e w' ⟨rfl, hw⟩; rw [hw])))
      all_goals first | (refine hK.out _ _ ⟨_, rfl, ?_, ?_⟩ ⟨bl_alloc (bl_refl _) _ _, Nat.le_refl _⟩ <;> (rw [World.cell?_alloc_new]; rfl)) | with_reducible exact hK.out _ _ rfl bd_refl | exact hK.out _ _ rfl (by assumption) | exact hK.out _ _ (by assumption) (by assumption)
    · cases ho
      have e2 : s 2 = _ := hs 2 (by decide) (by kernel_rfl)
      simp only [e2] at hK ⊢
      simp only [Act.put, List.setIfInBounds_toArray, List.set_cons_zero, List.set_cons_succ] at hK
      clear hs
      go_simp
      all_goals (try go_wp2_with (first | (go_at_call 25; first | ((with_reducible refine (k1 _).mono ?_); rintro e w' ⟨rfl, hw⟩; rw [hw]) | ((with_reducible refine (k2 _).mono ?_); rintro e w' ⟨rfl, hw⟩; rw [hw])) | (go_at_call 24; (with_reducible refine (kO g _ c0 c1).mono ?_); rintro e w' ⟨rfl, hw⟩; rw [hw])))
      all_goals first | (refine hK.out _ _ ⟨_, rfl, ?_, ?_⟩ ⟨bl_alloc (bl_refl _) _ _, Nat.le_refl _⟩ <;> (rw [World.cell?_alloc_new]; rfl)) | with_reducible exact hK.out _ _ rfl bd_refl | exact hK.out _ _ rfl (by assumption) | exact hK.out _ _ (by assumption) (by assumption)
    · cases ho
      have e1 : s 1 = _ := hs 1 (by decide) (by kernel_rfl)
      have e3 : s 3 = _ := hs 3 (by decide) (by kernel_rfl)
      simp only [e1, e3] at hK ⊢
      simp only [Act.put, List.setIfInBounds_toArray, List.set_cons_zero, List.set_cons_succ] at hK
      clear hs
      go_simp
      all_goals (try go_wp2_with (first | (go_at_call 25; first | ((with_reducible refine (k1 _).mono ?_); rintro e w' ⟨rfl, hw⟩; rw [hw]) | ((with_reducible refine (k2 _).mono ?_); rintro e w' ⟨rfl, hw⟩; rw [hw])) | (go_at_call 24; (with_reducible refine (kO g _ c0 c1).mono ?_); rintro e w' ⟨rfl, hw⟩; rw [hw])))
      all_goals first | (refine hK.out _ _ ⟨_, rfl, ?_, ?_⟩ ⟨bl_alloc (bl_refl _) _ _, Nat.le_refl _⟩ <;> (rw [World.cell?_alloc_new]; rfl)) | with_reducible exact hK.out _ _ rfl bd_refl | exact hK.out _ _ rfl (by assumption) | exact hK.out _ _ (by assumption) (by assumption)
    · cases ho
      simp only [Act.put, List.setIfInBounds_toArray, List.set_cons_zero, List.set_cons_succ] at hK
      clear hs
      go_simp
      all_goals (try go_wp2_with (first | (go_at_call 25; first | ((with_reducible refine (k1 _).mono ?_); rintro e w' ⟨rfl, hw⟩; rw [hw]) | ((with_reducible refine (k2 _).mono ?_); rintro e w' ⟨rfl, hw⟩; rw [hw])) | (go_at_call 24; (with_reducible refine (kO g _ c0 c1).mono ?_); rintro e w' ⟨rfl, hw⟩; rw [hw])))
      all_goals first | (refine hK.out _ _ ⟨_, rfl, ?_, ?_⟩ ⟨bl_alloc (bl_refl _) _ _, Nat.le_refl _⟩ <;> (rw [World.cell?_alloc_new]; rfl)) | with_reducible exact hK.out _ _ rfl bd_refl | exact hK.out _ _ rfl (by assumption) | exact hK.out _ _ (by assumption) (by assumption)
    · cases ho
      have e5 : s 5 = _ := hs 5 (by decide) (by kernel_rfl)
      simp only [e5] at hK ⊢
      simp only [Act.put, List.setIfInBounds_toArray, List.set_cons_zero, List.set_cons_succ] at hK
      clear hs
      go_simp
      all_goals (try go_wp2_with (first | (go_at_call 25; first | ((with_reducible refine (k1 _).mono ?_); rintro e w' ⟨rfl, hw⟩; rw [hw]) | ((with_reducible refine (k2 _).mono ?_); rintro e w' ⟨rfl, hw⟩; rw [hw])) | (go_at_call 24; (with_reducible refine (kO g _ c0 c1).mono ?_); rintro e w' ⟨rfl, hw⟩; rw [hw])))
      all_goals first | (refine hK.out _ _ ⟨_, rfl, ?_, ?_⟩ ⟨bl_alloc (bl_refl _) _ _, Nat.le_refl _⟩ <;> (rw [World.cell?_alloc_new]; rfl)) | with_reducible exact hK.out _ _ rfl bd_refl | exact hK.out _ _ rfl (by assumption) | exact hK.out _ _ (by assumption) (by assumption)
    · cases ho
      simp only [Act.put, List.setIfInBounds_toArray, List.set_cons_zero, List.set_cons_succ] at hK
      clear hs
      go_simp
      all_goals (try go_wp2_with (first | (go_at_call 25; first | ((with_reducible refine (k1 _).mono ?_); rintro e w' ⟨rfl, hw⟩; rw [hw]) | ((with_reducible refine (k2 _).mono ?_); rintro e w' ⟨rfl, hw⟩; rw [hw])) | (go_at_call 24; (with_reducible refine (kO g _ c0 c1).mono ?_); rintro e w' ⟨rfl, hw⟩; rw [hw])))
      all_goals first | (refine hK.out _ _ ⟨_, rfl, ?_, ?_⟩ ⟨bl_alloc (bl_refl _) _ _, Nat.le_refl _⟩ <;> (rw [World.cell?_alloc_new]; rfl)) | with_reducible exact hK.out _ _ rfl bd_refl | exact hK.out _ _ rfl (by assumption) | exact hK.out _ _ (by assumption) (by assumption)
    · cases ho
      have e7 : s 7 = _ := hs 7 (by decide) (by kernel_rfl)
      simp only [e7] at hK ⊢
      simp only [Act.put, List.setIfInBounds_toArray, List.set_cons_zero, List.set_cons_succ] at hK
      clear hs
      go_simp
      all_goals (try go_wp2_with (first | (go_at_call 25; first | ((with_reducible refine (k1 _).mono ?_); rintro e w' ⟨rfl, hw⟩; rw [hw]) | ((with_reducible refine (k2 _).mono ?_); rintro e w' ⟨rfl, hw⟩; rw [hw])) | (go_at_call 24; (with_reducible refine (kO g _ c0 c1).mono ?_); rintro e w' ⟨rfl, hw⟩; rw [hw])))
      all_goals first | (refine hK.out _ _ ⟨_, rfl, ?_, ?_⟩ ⟨bl_alloc (bl_refl _) _ _, Nat.le_refl _⟩ <;> (rw [World.cell?_alloc_new]; rfl)) | with_reducible exact hK.out _ _ rfl bd_refl | exact hK.out _ _ rfl (by assumption) | exact hK.out _ _ (by assumption) (by assumption)
    · cases ho
      have e6 : s 6 = _ := hs 6 (by decide) (by kernel_rfl)
      have e8 : s 8 = _ := hs 8 (by decide) (by kernel_rfl)
      simp only [e6, e8] at hK ⊢
      simp only [Act.put, List.setIfInBounds_toArray, List.set_cons_zero, List.set_cons_succ] at hK
      clear hs
      go_simp
      all_goals (try go_wp2_with (first | (go_at_call 25; first | ((with_reducible refine (k1 _).mono ?_); rintro e w' ⟨rfl, hw⟩; rw [hw]) | ((with_reducible refine (k2 _).mono ?_); rintro e w' ⟨rfl, hw⟩; rw [hw])) | (go_at_call 24; (with_reducible refine (kO g _ c0 c1).mono ?_); rintro e w' ⟨rfl, hw⟩; rw [hw])))
      all_goals first | (refine hK.out _ _ ⟨_, rfl, ?_, ?_⟩ ⟨bl_alloc (bl_refl _) _ _, Nat.le_refl _⟩ <;> (rw [World.cell?_alloc_new]; rfl)) | with_reducible exact hK.out _ _ rfl bd_refl | exact hK.out _ _ rfl (by assumption) | exact hK.out _ _ (by assumption) (by assumption)
    · cases ho
      have e4 : s 4 = _ := hs 4 (by decide) (by kernel_rfl)
      have e9 : s 9 = _ := hs 9 (by decide) (by kernel_rfl)
      simp only [e4, e9] at hK ⊢
      simp only [Act.put, List.setIfInBounds_toArray, List.set_cons_zero, List.set_cons_succ] at hK
      clear hs
      go_simp
      all_goals (try go_wp2_with (first | (go_at_call 25; first | ((with_reducible refine (k1 _).mono ?_); rintro e w' ⟨rfl, hw⟩; rw [hw]) | ((with_reducible refine (k2 _).mono ?_); rintro e w' ⟨rfl, hw⟩; rw [hw])) | (go_at_call 24; (with_reducible refine (kO g _ c0 c1).mono ?_); rintro e w' ⟨rfl, hw⟩; rw [hw])))
      all_goals first | (refine hK.out _ _ ⟨_, rfl, ?_, ?_⟩ ⟨bl_alloc (bl_refl _) _ _, Nat.le_refl _⟩ <;> (rw [World.cell?_alloc_new]; rfl)) | with_reducible exact hK.out _ _ rfl bd_refl | exact hK.out _ _ rfl (by assumption) | exact hK.out _ _ (by assumption) (by assumption)
    · cases ho
      obtain ⟨g, e10, c0, c1⟩ := hs 10 (by decide) (by kernel_rfl)
      simp only [e10] at hK ⊢
      simp only [Act.put, List.setIfInBounds_toArray, List.set_cons_zero, List.set_cons_succ] at hK
      clear hs
      go_simp
      all_goals (try go_wp2_with (first | (go_at_call 25; first | ((with_reducible refine (k1 _).mono ?_); rintro e w' ⟨rfl, hw⟩; rw [hw]) | ((with_reducible refine (k2 _).mono ?_); rintro e w' ⟨rfl, hw⟩; rw [hw])) | (go_at_call 24; (with_reducible refine (kO g _ c0 c1).mono ?_); rintro e w' ⟨rfl, hw⟩; rw [hw])))
      all_goals first | (refine hK.out _ _ ⟨_, rfl, ?_, ?_⟩ ⟨bl_alloc (bl_refl _) _ _, Nat.le_refl _⟩ <;> (rw [World.cell?_alloc_new]; rfl)) | with_reducible exact hK.out _ _ rfl bd_refl | exact hK.out _ _ rfl (by assumption) | exact hK.out _ _ (by assumption) (by assumption)
    · cases ho
      have e11 : s 11 = _ := hs 11 (by decide) (by kernel_rfl)
      simp only [e11] at hK ⊢
      simp only [Act.put, List.setIfInBounds_toArray, List.set_cons_zero, List.set_cons_succ] at hK
      clear hs
      go_simp
      all_goals (try go_wp2_with (first | (go_at_call 25; first | ((with_reducible refine (k1 _).mono ?_); rintro e w' ⟨rfl, hw⟩; rw [hw]) | ((with_reducible refine (k2 _).mono ?_); rintro e w' ⟨rfl, hw⟩; rw [hw])) | (go_at_call 24; (with_reducible refine (kO g _ c0 c1).mono ?_); rintro e w' ⟨rfl, hw⟩; rw [hw])))
      all_goals first | (refine hK.out _ _ ⟨_, rfl, ?_, ?_⟩ ⟨bl_alloc (bl_refl _) _ _, Nat.le_refl _⟩ <;> (rw [World.cell?_alloc_new]; rfl)) | with_reducible exact hK.out _ _ rfl bd_refl | exact hK.out _ _ rfl (by assumption) | exact hK.out _ _ (by assumption) (by assumption)
  case ht_wz =>
    intro s Wz hs hb
    have e0 : s 0 = _ := hs 0 (by decide)
    have e1 : s 1 = _ := hs 1 (by decide)
    have e2 : s 2 = _ := hs 2 (by decide)
    have e3 : s 3 = _ := hs 3 (by decide)
    have e4 : s 4 = _ := hs 4 (by decide)
    have e5 : s 5 = _ := hs 5 (by decide)
    have e6 : s 6 = _ := hs 6 (by decide)
    have e7 : s 7 = _ := hs 7 (by decide)
    have e8 : s 8 = _ := hs 8 (by decide)
    have e9 : s 9 = _ := hs 9 (by decide)
    obtain ⟨g, e10, c0, c1⟩ := hs 10 (by decide)
    have e11 : s 11 = _ := hs 11 (by decide)
    have e12 : s 12 = _ := hs 12 (by decide)
    simp only [e0, e1, e2, e3, e4, e5, e6, e7, e8, e9, e10, e11, e12]
    clear hs e0 e1 e2 e3 e4 e5 e6 e7 e8 e9 e10 e11 e12
    go_wp2
    go_ret
    exact ⟨rfl, grow_of (bw_trans (bl_alloc (bl_alloc (bl_refl w) _ _) _ _).1 hb.1.1) hb.2⟩

def encP (p : Nat × Nat) : List Value := [.int .i64 (p.1 : Int), .int .i64 (p.2 : Int)]
theorem ltP (x y : Nat × Nat) : ltOf cP x y = decide (x.1 < y.1 ∨ (x.1 = y.1 ∧ x.2 < y.2)) := by
  unfold ltOf cP cI
  by_cases h1 : x.1 < y.1
  · simp [h1]
  · by_cases h2 : y.1 < x.1
    · simp [h1, h2]; omega
    · have e : x.1 = y.1 := by omega
      by_cases h3 : x.2 < y.2
      · simp [e, h3]
      · by_cases h4 : y.2 < x.2 <;> simp [e, h3, h4]
theorem swoP : SWO (ltOf cP) where
  irrefl x := by rw [ltP]; simp
  trans x y z h1 h2 := by rw [ltP] at *; simp at *; omega
  ntrans x y z h1 h2 := by rw [ltP] at *; simp at *; omega
theorem cmpLays14 (blk off size : Nat) (w : World) : CmpLays Try.prog 23 #[] encP 2 cP blk off size w := fun m os dk hs x y => rising14_s x y _
theorem pRow_get : ∀ (l : List (Nat × Nat)) (k : Nat), k < l.length * 2 → (pRow l)[k]? = some (encP l[k / 2]!)[k % 2]!
  | [], k, h => by simp at h
  | a :: l, 0, h => rfl
  | a :: l, 1, h => rfl
  | a :: l, k + 2, h => by
    have e : pRow (a :: l) = .int .i64 (a.1 : Int) :: .int .i64 (a.2 : Int) :: pRow l := rfl
    rw [e, List.getElem?_cons_succ, List.getElem?_cons_succ, pRow_get l k (by simp only [List.length_cons] at h; omega), show (k + 2) / 2 = k / 2 + 1 by omega, show (k + 2) % 2 = k % 2 by omega]
    rfl
theorem flat_map (d : Array (Nat × Nat)) : (flatK encP 2 d).toList.map id = pRow d.toList := by
  rw [List.map_id]
  apply List.ext_getElem?
  intro k
  rcases Nat.lt_or_ge k (d.size * 2) with h | h
  · rw [pRow_get _ _ (by rw [Array.length_toList]; exact h), Array.getElem?_toList, Array.getElem?_eq_getElem (by rw [size_flatK]; exact h)]
    have := get_flatK encP 2 d k h
    rw [getElem!_pos _ k (by rw [size_flatK]; exact h)] at this
    rw [this]
    have hk : k / 2 < d.size := by omega
    rw [getElem!_pos d _ hk, getElem!_pos d.toList _ (by simpa using hk)]
    simp
  · rw [List.getElem?_eq_none (by rw [Array.length_toList, size_flatK]; exact h), List.getElem?_eq_none (by rw [pRow_length, Array.length_toList]; exact h)]
set_option maxHeartbeats 4000000 in
theorem sort14_s (base : Nat) (v : Value) (L : List (Nat × Nat)) (w : World) (hO : OwnR 2 base w v L.length (pRow L)) (hl : L.length < 4611686018427387904) :
    Calls Try.prog 22 #[v, .func (.func 23) #[] #[]] w fun e w' => e = .returned (.tuple #[]) ∧ ∃ L', L'.Perm L ∧ (L'.Pairwise fun a b => ¬ lexO b a) ∧ OwnR 2 base w' v L'.length (pRow L') ∧ Below base w w' := by
  rcases own_split hO (by decide) with ⟨h0, sa, cp, rfl⟩ | ⟨h0, g, cp, rfl, hg, hgs, hcp⟩
  · have q := AnyF.slices_SortFunc_none sortL sa cp (.func (.func 23) #[] #[]) w
    refine q.mono ?_
    rintro e w' ⟨rfl, rfl⟩
    have e0 : L = [] := List.eq_nil_of_length_eq_zero h0
    subst e0
    exact ⟨rfl, [], List.Perm.refl _, List.Pairwise.nil, hO, Below.refl _ _⟩
  · have hO1 : OwnR 2 base w (.slice (some ⟨g, 0, none⟩) L.length cp) L.length ((flatK encP 2 L.toArray).toList.map id) := by rw [flat_map, List.toList_toArray]; exact hO
    have hH : HoldsK encP 2 w g 0 L.toArray := own_holds hO1
    have q := AnyQ.slices_SortFunc sortL 2 Try.isAgg37 Try.sizeOf37 encP (fun _ => rfl) (fun x v hv => by simp [encP] at hv; rcases hv with rfl | rfl <;> rfl) cP swoP 23 #[] g 0 cp L.toArray w (enters_of Try.func23 (by kernel_rfl) rfl) (cmpLays14 g 0 _ w) hH hgs (by rw [List.size_toArray]; exact hl)
    rw [List.size_toArray] at q
    refine q.mono ?_
    rintro e w' ⟨rfl, d', m, os, hp, hs, rfl⟩
    have hds : d'.size = L.toArray.size := hp.1
    have hO2 := sort_own (enc := id) (m := m) (os := os) hO1 (d := flatK encP 2 d') (by rw [List.length_map, Array.length_toList, size_flatK, size_flatK, hds]) hgs hH (by rw [size_flatK, size_flatK, hds])
    rw [flat_map] at hO2
    have hl' : d'.toList.length = L.length := by rw [Array.length_toList, hds, List.size_toArray]
    refine ⟨rfl, d'.toList, ?_, ?_, by rw [hl']; exact hO2, sort_below hg hgs⟩
    · have := permIn_list (by rw [List.size_toArray]) hp
      rwa [List.toList_toArray] at this
    · refine (sorted_list (by rw [hds, List.size_toArray]) hs).imp ?_
      intro a b hab
      rw [ltP] at hab
      unfold lexO
      simpa using hab

end Go.Proofs.Ytekhnolpgoejdab
