/-
  'tumblelaw10.NearPolygons' is true of all planes and rows of points.
-/
import Derived.Test.YtpnkmflkjokhlaaRows
import Derived.Test.YtpnkmflkjokhlaaNk
import Derived.WalkKit
import Derived.ProofKit
import Derived.OpenShut
import Derived.WalkLawsBesides
import Derived.WalkSpells
import Derived.Lib.SmallJoins
import Derived.Laws.Cover2
import Derived.Laws.AppendOwn
import Derived.Laws.OwnMore
import Derived.Laws.AppendOwnNone
import Derived.Deep.RegionHeld3
import Derived.Deep.RegionWith
import Derived.Deep.SlicePairs
import Derived.SizedLaws
import Derived.Below
import Derived.Laws.StructEq
namespace Go.Proofs.Ytpnkmflkjokhlaa.nearPolygons
open Go.ChangeShapes Go.WideShapes Go.ChangeAt Go.RowKit Go.Joins
set_option linter.unusedVariables false
set_option linter.unusedSimpArgs false

theorem own : ownKnob Try.prog.godebug = none := by kernel_rfl
theorem laidOut : laidOutB Try.prog = true := by kernel_rfl
theorem wf_f64 {x : Nat} (h : (Lit.float .f64 x).wf = true) : okK .f64 x := by
  rw [okK64]; simpa [Lit.wf] using h
theorem trod_fl {H : Type} {enc : TypeId × Value → H} {P : Program} {w : World} {base fuel : Nat} {spare : Nat → Bool} {held : Bool} {t : TypeId} {cs : List Value} {x : DataW H × List MemPlace} {k : FloatKind} (ht : P.underlying t = some (.float k)) (h : DataW.trod enc P w base spare held fuel t cs = some x) : ∃ z, cs = [.float k z] ∧ x = (.lit (.float k z), []) ∧ (Lit.float k z).wf = true := by
  cases fuel with
  | zero => simp [DataW.trod] at h
  | succ n =>
    unfold DataW.trod at h
    rw [ht] at h
    split at h <;> simp_all

theorem cellsV : Try.prog.cellsOf 24 = 2 := by kernel_rfl

set_option maxRecDepth 100000 in
set_option maxHeartbeats 4000000 in
theorem walk_any (V : Value) (n : Nat) (xs ys : Nat → Nat) (px py : Nat) (ox : okK .f64 px) (oy : okK .f64 py) (w : World) (h : AnyS w V n xs ys) : Calls Try.prog 4 #[V, .agg #[.float .f64 px, .float .f64 py]] w fun e w' => e = .returned (.bool true) ∧ Bel w w' := by
  obtain ⟨P, hp⟩ : ∃ P, isP px py P := ⟨_, isP_self ox oy⟩
  have hh := h
  obtain ⟨a, cap, rfl, hcap, hmx, hb16, hO, _⟩ := hh
  have hmx2 := hmx
  unfold maxLen at hmx2
  have z0_0 : (w.alloc (.cells #[.float .f64 px, .float .f64 py] 24)).cell? ⟨w.heap.size, 0, none⟩ = some (.float .f64 px) := by rw [World.cell?_alloc_new]; rfl
  have z0_1 : (w.alloc (.cells #[.float .f64 px, .float .f64 py] 24)).cell? ⟨w.heap.size, 1, none⟩ = some (.float .f64 py) := by rw [World.cell?_alloc_new]; rfl
  have B0 : Bel w (w.alloc (.cells #[.float .f64 px, .float .f64 py] 24)) := bl_alloc (bl_refl w) _ _
  go_enter Try.func4, Try.ntmps4
  go_wp2_with (first | (go_at_call 15; refine (lent10_any _ n xs ys _ (h.bel B0)).mono ?_; rintro e w1 ⟨g, c, rfl, hg, hL, hb⟩; replace z0_0 : w1.cell? ⟨w.heap.size, 0, none⟩ = some (.float .f64 px) := keep hb (by first | exact z0_0 | go_keep); replace z0_1 : w1.cell? ⟨w.heap.size, 1, none⟩ = some (.float .f64 py) := keep hb (by first | exact z0_1 | go_keep); have BF := hb; clear hb; have c1 := hL.1; have c2 := hL.2.1; have c3 : (n : Int) ≤ (c : Int) := (by omega); have c4 : (n : Int) ≤ (n : Int) + 1 := (by omega); have hm := True.intro))
  refine wp_region_new 14 rfl (fun i v => match i with | 0 => v = .slice (some ⟨g, 0, none⟩) (n + 1) c | 1 => v = .slice a n cap | 2 => v = .int .i64 (n : Int) | 3 => v = .slice (some ⟨g, 0, none⟩) n c | 4 => v = .agg #[.float .f64 px, .float .f64 py] | 5 => ∃ x y, isP x y (pkF (decide (pyE xs ys n px py = 0)) (plF xs ys n P n).1.2.1 (0, 0)) ∧ v = .tuple #[.agg #[.float .f64 x, .float .f64 y], .int .i64 ((pkF (decide (pyE xs ys n px py = 0)) (plF xs ys n P n).2 0) : Int), .int .i64 (pyE xs ys n px py)] | 6 => ∃ x y, isP x y (pkF (decide (pyE xs ys n px py = 0)) (plF xs ys n P n).1.2.1 (0, 0)) ∧ v = .tuple #[.agg #[.float .f64 x, .float .f64 y], .int .i64 ((pkF (decide (pyE xs ys n px py = 0)) (plF xs ys n P n).2 0) : Int), .int .i64 (pyE xs ys n px py)] | 7 => ∃ x y, isP x y (pkF (decide (pyE xs ys n px py = 0)) (plF xs ys n P n).1.2.1 (0, 0)) ∧ v = .agg #[.float .f64 x, .float .f64 y] | 8 => v = .int .i64 ((pkF (decide (pyE xs ys n px py = 0)) (plF xs ys n P n).2 0) : Int) | 9 => v = .int .i64 (pyE xs ys n px py) | 12 => v = .int .i64 ((pkF (decide (pyE xs ys n px py = 0)) (plF xs ys n P n).2 0) : Int) | 13 => v = .int .i64 (pyE xs ys n px py) | _ => False) [(10, #[.float .f64 0, .float .f64 0], 24)] [(11, 10, 7)] ?A_wn (by kernel_rfl) (by kernel_rfl) ?hA_wn ?ha_wn ?hst_wn ?hq_wn ?ht_wn
  case hA_wn =>
    intro s
    simp only [putL, dstO, Act.put, List.getElem?_toArray, List.getElem?_cons_zero, List.getElem?_cons_succ, Option.bind_some, List.setIfInBounds_toArray, List.set_cons_zero, List.set_cons_succ, if_true]
    all_goals exact rfl
  case ha_wn =>
    intro i o c ty hi ho hal B W K hK
    rcases (show i = 0 ∨ i = 1 ∨ i = 2 ∨ i = 3 ∨ i = 4 ∨ i = 5 ∨ i = 6 ∨ i = 7 ∨ i = 8 ∨ i = 9 ∨ i = 10 ∨ i = 11 ∨ i = 12 ∨ i = 13 by omega) with rfl | rfl | rfl | rfl | rfl | rfl | rfl | rfl | rfl | rfl | rfl | rfl | rfl | rfl
    · cases (show none = some (c, ty) from hal)
    · cases (show none = some (c, ty) from hal)
    · cases (show none = some (c, ty) from hal)
    · cases (show none = some (c, ty) from hal)
    · cases (show none = some (c, ty) from hal)
    · cases (show none = some (c, ty) from hal)
    · cases (show none = some (c, ty) from hal)
    · cases (show none = some (c, ty) from hal)
    · cases (show none = some (c, ty) from hal)
    · cases (show none = some (c, ty) from hal)
    · cases ho; cases (show some (#[.float .f64 0, .float .f64 0], 24) = some (c, ty) from hal); go_simp; exact hK.out
    · cases (show none = some (c, ty) from hal)
    · cases (show none = some (c, ty) from hal)
    · cases (show none = some (c, ty) from hal)
  case hst_wn =>
    intro t o a d c ty hlt ho hts hal s hs W b eb hc hf K hK
    rcases (show t = 0 ∨ t = 1 ∨ t = 2 ∨ t = 3 ∨ t = 4 ∨ t = 5 ∨ t = 6 ∨ t = 7 ∨ t = 8 ∨ t = 9 ∨ t = 10 ∨ t = 11 ∨ t = 12 ∨ t = 13 by omega) with rfl | rfl | rfl | rfl | rfl | rfl | rfl | rfl | rfl | rfl | rfl | rfl | rfl | rfl
    · cases (show none = some (a, d) from hts)
    · cases (show none = some (a, d) from hts)
    · cases (show none = some (a, d) from hts)
    · cases (show none = some (a, d) from hts)
    · cases (show none = some (a, d) from hts)
    · cases (show none = some (a, d) from hts)
    · cases (show none = some (a, d) from hts)
    · cases (show none = some (a, d) from hts)
    · cases (show none = some (a, d) from hts)
    · cases (show none = some (a, d) from hts)
    · cases (show none = some (a, d) from hts)
    · cases ho; cases (show some (10, 7) = some (a, d) from hts); cases (show some (#[.float .f64 0, .float .f64 0], 24) = some (c, ty) from hal)
      obtain ⟨x, y, h7, e7⟩ := hs 7 (by decide) rfl rfl (by kernel_rfl)
      obtain ⟨u0, hu0⟩ := Option.isSome_iff_exists.1 (hc 0 (by decide))
      obtain ⟨u1, hu1⟩ := Option.isSome_iff_exists.1 (hc 1 (by decide))
      simp only [eb, e7] at hK ⊢
      clear hs
      go_simp
      exact hK.out
    · cases (show none = some (a, d) from hts)
    · cases (show none = some (a, d) from hts)
  case hq_wn =>
    intro i o hi hal hts ho s hs W hb K hK
    have u0 := keep hb z0_0; have u1 := keep hb z0_1
    rcases (show i = 0 ∨ i = 1 ∨ i = 2 ∨ i = 3 ∨ i = 4 ∨ i = 5 ∨ i = 6 ∨ i = 7 ∨ i = 8 ∨ i = 9 ∨ i = 10 ∨ i = 11 ∨ i = 12 ∨ i = 13 by omega) with rfl | rfl | rfl | rfl | rfl | rfl | rfl | rfl | rfl | rfl | rfl | rfl | rfl | rfl
    · cases ho
      simp only [Act.put, List.setIfInBounds_toArray, List.set_cons_zero, List.set_cons_succ] at hK
      clear hs hal hts
      go_simp
      all_goals (try go_wp2_with (first | (go_at_call 16; refine (npoly_any _ n xs ys px py _ ((hL.any hO hb16).bel hb) hp).mono ?_; rintro e w' ⟨x, y, h5, rfl, hb1⟩)))
      all_goals first | exact hK.out _ _ ⟨_, _, h5, rfl⟩ hb1 | exact hK.out _ _ ⟨_, _, h5, rfl⟩ (bl_refl _) | exact hK.out _ _ ⟨_, _, h6, rfl⟩ (bl_refl _) | exact hK.out _ _ rfl (bl_refl _) | exact hK.out _ _ rfl (by assumption) | exact hK.out _ _ (by assumption) (by assumption)
    · cases ho
      simp only [Act.put, List.setIfInBounds_toArray, List.set_cons_zero, List.set_cons_succ] at hK
      clear hs hal hts
      go_simp
      all_goals (try go_wp2_with (first | (go_at_call 16; refine (npoly_any _ n xs ys px py _ ((hL.any hO hb16).bel hb) hp).mono ?_; rintro e w' ⟨x, y, h5, rfl, hb1⟩)))
      all_goals first | exact hK.out _ _ ⟨_, _, h5, rfl⟩ hb1 | exact hK.out _ _ ⟨_, _, h5, rfl⟩ (bl_refl _) | exact hK.out _ _ ⟨_, _, h6, rfl⟩ (bl_refl _) | exact hK.out _ _ rfl (bl_refl _) | exact hK.out _ _ rfl (by assumption) | exact hK.out _ _ (by assumption) (by assumption)
    · cases ho
      have e1 : s 1 = _ := hs 1 (by decide) rfl rfl (by kernel_rfl)
      simp only [e1] at hK ⊢
      simp only [Act.put, List.setIfInBounds_toArray, List.set_cons_zero, List.set_cons_succ] at hK
      clear hs hal hts
      go_simp
      all_goals (try go_wp2_with (first | (go_at_call 16; refine (npoly_any _ n xs ys px py _ ((hL.any hO hb16).bel hb) hp).mono ?_; rintro e w' ⟨x, y, h5, rfl, hb1⟩)))
      all_goals first | exact hK.out _ _ ⟨_, _, h5, rfl⟩ hb1 | exact hK.out _ _ ⟨_, _, h5, rfl⟩ (bl_refl _) | exact hK.out _ _ ⟨_, _, h6, rfl⟩ (bl_refl _) | exact hK.out _ _ rfl (bl_refl _) | exact hK.out _ _ rfl (by assumption) | exact hK.out _ _ (by assumption) (by assumption)
    · cases ho
      have e0 : s 0 = _ := hs 0 (by decide) rfl rfl (by kernel_rfl)
      have e2 : s 2 = _ := hs 2 (by decide) rfl rfl (by kernel_rfl)
      simp only [e0, e2] at hK ⊢
      simp only [Act.put, List.setIfInBounds_toArray, List.set_cons_zero, List.set_cons_succ] at hK
      clear hs hal hts
      go_simp
      all_goals (try go_wp2_with (first | (go_at_call 16; refine (npoly_any _ n xs ys px py _ ((hL.any hO hb16).bel hb) hp).mono ?_; rintro e w' ⟨x, y, h5, rfl, hb1⟩)))
      all_goals first | exact hK.out _ _ ⟨_, _, h5, rfl⟩ hb1 | exact hK.out _ _ ⟨_, _, h5, rfl⟩ (bl_refl _) | exact hK.out _ _ ⟨_, _, h6, rfl⟩ (bl_refl _) | exact hK.out _ _ rfl (bl_refl _) | exact hK.out _ _ rfl (by assumption) | exact hK.out _ _ (by assumption) (by assumption)
    · cases ho
      simp only [Act.put, List.setIfInBounds_toArray, List.set_cons_zero, List.set_cons_succ] at hK
      clear hs hal hts
      go_simp
      all_goals (try go_wp2_with (first | (go_at_call 16; refine (npoly_any _ n xs ys px py _ ((hL.any hO hb16).bel hb) hp).mono ?_; rintro e w' ⟨x, y, h5, rfl, hb1⟩)))
      all_goals first | exact hK.out _ _ ⟨_, _, h5, rfl⟩ hb1 | exact hK.out _ _ ⟨_, _, h5, rfl⟩ (bl_refl _) | exact hK.out _ _ ⟨_, _, h6, rfl⟩ (bl_refl _) | exact hK.out _ _ rfl (bl_refl _) | exact hK.out _ _ rfl (by assumption) | exact hK.out _ _ (by assumption) (by assumption)
    · cases ho
      have e3 : s 3 = _ := hs 3 (by decide) rfl rfl (by kernel_rfl)
      have e4 : s 4 = _ := hs 4 (by decide) rfl rfl (by kernel_rfl)
      simp only [e3, e4] at hK ⊢
      simp only [Act.put, List.setIfInBounds_toArray, List.set_cons_zero, List.set_cons_succ] at hK
      clear hs hal hts
      go_simp
      all_goals (try go_wp2_with (first | (go_at_call 16; refine (npoly_any _ n xs ys px py _ ((hL.any hO hb16).bel hb) hp).mono ?_; rintro e w' ⟨x, y, h5, rfl, hb1⟩)))
      all_goals first | exact hK.out _ _ ⟨_, _, h5, rfl⟩ hb1 | exact hK.out _ _ ⟨_, _, h5, rfl⟩ (bl_refl _) | exact hK.out _ _ ⟨_, _, h6, rfl⟩ (bl_refl _) | exact hK.out _ _ rfl (bl_refl _) | exact hK.out _ _ rfl (by assumption) | exact hK.out _ _ (by assumption) (by assumption)
    · cases ho
      obtain ⟨x, y, h5, e5⟩ := hs 5 (by decide) rfl rfl (by kernel_rfl)
      simp only [e5] at hK ⊢
      simp only [Act.put, List.setIfInBounds_toArray, List.set_cons_zero, List.set_cons_succ] at hK
      clear hs hal hts
      go_simp
      all_goals (try go_wp2_with (first | (go_at_call 16; refine (npoly_any _ n xs ys px py _ ((hL.any hO hb16).bel hb) hp).mono ?_; rintro e w' ⟨x, y, h5, rfl, hb1⟩)))
      all_goals first | exact hK.out _ _ ⟨_, _, h5, rfl⟩ hb1 | exact hK.out _ _ ⟨_, _, h5, rfl⟩ (bl_refl _) | exact hK.out _ _ ⟨_, _, h6, rfl⟩ (bl_refl _) | exact hK.out _ _ rfl (bl_refl _) | exact hK.out _ _ rfl (by assumption) | exact hK.out _ _ (by assumption) (by assumption)
    · cases ho
      obtain ⟨x, y, h6, e6⟩ := hs 6 (by decide) rfl rfl (by kernel_rfl)
      simp only [e6] at hK ⊢
      simp only [Act.put, List.setIfInBounds_toArray, List.set_cons_zero, List.set_cons_succ] at hK
      clear hs hal hts
      go_simp
      all_goals (try go_wp2_with (first | (go_at_call 16; refine (npoly_any _ n xs ys px py _ ((hL.any hO hb16).bel hb) hp).mono ?_; rintro e w' ⟨x, y, h5, rfl, hb1⟩)))
      all_goals first | exact hK.out _ _ ⟨_, _, h5, rfl⟩ hb1 | exact hK.out _ _ ⟨_, _, h5, rfl⟩ (bl_refl _) | exact hK.out _ _ ⟨_, _, h6, rfl⟩ (bl_refl _) | exact hK.out _ _ rfl (bl_refl _) | exact hK.out _ _ rfl (by assumption) | exact hK.out _ _ (by assumption) (by assumption)
    · cases ho
      obtain ⟨x, y, h6, e6⟩ := hs 6 (by decide) rfl rfl (by kernel_rfl)
      simp only [e6] at hK ⊢
      simp only [Act.put, List.setIfInBounds_toArray, List.set_cons_zero, List.set_cons_succ] at hK
      clear hs hal hts
      go_simp
      all_goals (try go_wp2_with (first | (go_at_call 16; refine (npoly_any _ n xs ys px py _ ((hL.any hO hb16).bel hb) hp).mono ?_; rintro e w' ⟨x, y, h5, rfl, hb1⟩)))
      all_goals first | exact hK.out _ _ ⟨_, _, h5, rfl⟩ hb1 | exact hK.out _ _ ⟨_, _, h5, rfl⟩ (bl_refl _) | exact hK.out _ _ ⟨_, _, h6, rfl⟩ (bl_refl _) | exact hK.out _ _ rfl (bl_refl _) | exact hK.out _ _ rfl (by assumption) | exact hK.out _ _ (by assumption) (by assumption)
    · cases ho
      obtain ⟨x, y, h6, e6⟩ := hs 6 (by decide) rfl rfl (by kernel_rfl)
      simp only [e6] at hK ⊢
      simp only [Act.put, List.setIfInBounds_toArray, List.set_cons_zero, List.set_cons_succ] at hK
      clear hs hal hts
      go_simp
      all_goals (try go_wp2_with (first | (go_at_call 16; refine (npoly_any _ n xs ys px py _ ((hL.any hO hb16).bel hb) hp).mono ?_; rintro e w' ⟨x, y, h5, rfl, hb1⟩)))
      all_goals first | exact hK.out _ _ ⟨_, _, h5, rfl⟩ hb1 | exact hK.out _ _ ⟨_, _, h5, rfl⟩ (bl_refl _) | exact hK.out _ _ ⟨_, _, h6, rfl⟩ (bl_refl _) | exact hK.out _ _ rfl (bl_refl _) | exact hK.out _ _ rfl (by assumption) | exact hK.out _ _ (by assumption) (by assumption)
    · cases (show some _ = none from hal)
    · cases (show some _ = none from hts)
    · cases ho
      have e8 : s 8 = _ := hs 8 (by decide) rfl rfl (by kernel_rfl)
      simp only [e8] at hK ⊢
      simp only [Act.put, List.setIfInBounds_toArray, List.set_cons_zero, List.set_cons_succ] at hK
      clear hs hal hts
      go_simp
      all_goals (try go_wp2_with (first | (go_at_call 16; refine (npoly_any _ n xs ys px py _ ((hL.any hO hb16).bel hb) hp).mono ?_; rintro e w' ⟨x, y, h5, rfl, hb1⟩)))
      all_goals first | exact hK.out _ _ ⟨_, _, h5, rfl⟩ hb1 | exact hK.out _ _ ⟨_, _, h5, rfl⟩ (bl_refl _) | exact hK.out _ _ ⟨_, _, h6, rfl⟩ (bl_refl _) | exact hK.out _ _ rfl (bl_refl _) | exact hK.out _ _ rfl (by assumption) | exact hK.out _ _ (by assumption) (by assumption)
    · cases ho
      have e9 : s 9 = _ := hs 9 (by decide) rfl rfl (by kernel_rfl)
      simp only [e9] at hK ⊢
      simp only [Act.put, List.setIfInBounds_toArray, List.set_cons_zero, List.set_cons_succ] at hK
      clear hs hal hts
      go_simp
      all_goals (try go_wp2_with (first | (go_at_call 16; refine (npoly_any _ n xs ys px py _ ((hL.any hO hb16).bel hb) hp).mono ?_; rintro e w' ⟨x, y, h5, rfl, hb1⟩)))
      all_goals first | exact hK.out _ _ ⟨_, _, h5, rfl⟩ hb1 | exact hK.out _ _ ⟨_, _, h5, rfl⟩ (bl_refl _) | exact hK.out _ _ ⟨_, _, h6, rfl⟩ (bl_refl _) | exact hK.out _ _ rfl (bl_refl _) | exact hK.out _ _ rfl (by assumption) | exact hK.out _ _ (by assumption) (by assumption)
  case ht_wn =>
    intro s hs W hb hJ
    have e0 : s 0 = _ := hs 0 (by decide) rfl rfl
    have e1 : s 1 = _ := hs 1 (by decide) rfl rfl
    have e2 : s 2 = _ := hs 2 (by decide) rfl rfl
    have e3 : s 3 = _ := hs 3 (by decide) rfl rfl
    have e4 : s 4 = _ := hs 4 (by decide) rfl rfl
    obtain ⟨_, _, _, e5⟩ := hs 5 (by decide) rfl rfl
    obtain ⟨_, _, _, e6⟩ := hs 6 (by decide) rfl rfl
    obtain ⟨x, y, hq1, e7⟩ := hs 7 (by decide) rfl rfl
    have e8 : s 8 = _ := hs 8 (by decide) rfl rfl
    have e9 : s 9 = _ := hs 9 (by decide) rfl rfl
    have e12 : s 12 = _ := hs 12 (by decide) rfl rfl
    have e13 : s 13 = _ := hs 13 (by decide) rfl rfl
    obtain ⟨p10, e10, n10, l10, cl10⟩ := hJ.1 10 _ _ (by decide) rfl rfl
    have k_p10_0 : W.cell? ⟨p10, 0, none⟩ = some (cellAt (s 7) 0) := cl10 0 (by decide)
    have k_p10_1 : W.cell? ⟨p10, 1, none⟩ = some (cellAt (s 7) 1) := cl10 1 (by decide)
    rw [e7] at k_p10_0 k_p10_1
    simp only [cellAt] at k_p10_0 k_p10_1
    simp only [e0, e1, e2, e3, e4, e5, e6, e7, e8, e9, e12, e13, e10]
    clear hs hJ e0 e1 e2 e3 e4 e5 e6 e7 e8 e9 e12 e13 e10 cl10
    have hL := hL.bel hb
    replace BF := bl_trans BF hb
    have z0_0 := keep hb z0_0
    have z0_1 := keep hb z0_1
    have l10 := World.block_lt_of_cell? _ _ k_p10_0
    simp only at l10
    clear hb
    go_wp2_with (first | (go_at_call 17; refine (rpoly_any _ n xs ys px py _ (h.bel (bl_trans B0 BF)) hp).mono ?_; rintro e w3 ⟨x2, y2, hq2, rfl, hb⟩; replace k_p10_0 : w3.cell? ⟨p10, 0, none⟩ = some (.float .f64 x) := keep hb (by first | exact k_p10_0 | go_keep); replace k_p10_1 : w3.cell? ⟨p10, 1, none⟩ = some (.float .f64 y) := keep hb (by first | exact k_p10_1 | go_keep); replace hL := hL.bel hb; replace BF := bl_trans BF hb; clear hb; have l10 := World.block_lt_of_cell? _ _ k_p10_0; simp only at l10) | (go_at_call 10; refine (sameVec_n _ hq1 hq2).mono ?_; rintro e w4 ⟨rfl, hb⟩; replace hL := hL.bel (bl_trans (bl_alloc (bl_refl _) _ _) hb); replace BF := bl_trans (bl_alloc BF _ _) hb; clear hb) | (go_at_call 15; refine (lent10_any _ n xs ys _ (h.bel (bl_trans B0 BF))).mono ?_; rintro e w5 ⟨g2, d, rfl, hg2, hM, hb⟩; replace hL := hL.bel hb; replace BF := bl_trans BF hb; clear hb; have d1 := hM.1; have d2 := hM.2.1) | (go_at_call 18; refine (sameVecs_some g c g2 0 d (n + 1) _ _ _ hL.sl hM.sl (oks_mk hO) (by omega) (by omega) (by omega) (by omega)).mono ?_; rintro e w6 ⟨rfl, hb⟩; replace BF := bl_trans BF hb; clear hb))
    go_ret
    exact ⟨rfl, bl_trans B0 BF⟩

/-- a row of ways: none, or len of them in cells, with room for cap -/
def IsWays (w : World) (a : Option Addr) (len cap : Nat) : Prop :=
  (a = none ∧ len = 0 ∧ cap = 0) ∨ ∃ (x : Addr) (xs ys : Nat → Nat), a = some x ∧ len ≤ cap ∧ cap ≤ maxLen ∧ len * 16 ≤ 140737488351232 ∧ ∀ i, i < len → w.cell? (x.add (i * 2)) = some (.float .f64 (xs i)) ∧ w.cell? (x.add (i * 2 + 1)) = some (.float .f64 (ys i)) ∧ okK .f64 (xs i) ∧ okK .f64 (ys i)
theorem any_of {w : World} {a : Option Addr} {len cap : Nat} (h : IsWays w a len cap) : ∃ xs ys, AnyS w (.slice a len cap) len xs ys := by
  rcases h with ⟨rfl, rfl, rfl⟩ | ⟨x, xs, ys, rfl, hl, hm, hr, hcell⟩
  · exact ⟨fun _ => 0, fun _ => 0, _, _, rfl, Nat.le_refl _, by decide, by decide, fun i hi => by omega, .inl rfl⟩
  · refine ⟨xs, ys, _, _, rfl, hl, Nat.le_trans hl hm, hr, fun i hi => ⟨(hcell i hi).2.2.1, (hcell i hi).2.2.2⟩, ?_⟩
    rcases Nat.eq_zero_or_pos len with h0 | h0
    · exact .inl h0
    · right
      obtain ⟨b, off, spot⟩ := x
      have hspot : spot = none := by simpa [Addr.add] using World.cell?_spot (hcell 0 h0).1
      subst hspot
      refine ⟨h0, b, off, rfl, fun i hi => ⟨?_, ?_⟩⟩
      · have h := (hcell i hi).1
        rw [add_plain] at h
        exact h
      · have h := (hcell i hi).2.1
        rw [add_plain, ← Nat.add_assoc] at h
        exact h
theorem walk (a0 : Option Addr) (len0 cap0 : Nat) (x1 y1 : Nat) (ox1 : okK .f64 x1) (oy1 : okK .f64 y1) (w : World) (h0 : IsWays w a0 len0 cap0) :
    Calls Try.prog 4 #[.slice a0 len0 cap0, .agg #[.float .f64 x1, .float .f64 y1]] w fun e w' => e = .returned (.bool true) ∧ Below w.heap.size w w' := by
  obtain ⟨xs0, ys0, g0⟩ := any_of h0
  exact (walk_any _ _ xs0 ys0 x1 y1 ox1 oy1 w g0).mono fun e w' h => ⟨h.1, h.2.1⟩

set_option maxRecDepth 100000 in
theorem lifted (os : Os) (started : os.Started) (H : Type) (enc : TypeId × Value → H) :
    ReturnsInHanded {} Try.checked os 4 .any (Rows.nearPolygonsSpec.pre6 enc Try.prog Try.f4 Rows.nearPolygonsRow.domain false) (Rows.nearPolygonsSpec.post enc Try.prog Try.f4 false true false false) := by
  refine returnsInHanded_of_change_sized (C := Try.checked) own started (by kernel_rfl) Try.func4
    (ChangeSpec.witness6 (enc := enc) (C := Try.checked) false ⟨#[], #[.slice none 0 0, .agg #[.float .f64 0, .float .f64 0]], []⟩ 8 (by kernel_rfl) (by kernel_rfl) (by kernel_rfl) (by kernel_rfl)) ?_
  intro W base args ds gs before hval0 hW hcnd hsz0 _
  have hsz : (DataW.weightsEach Try.prog (Try.f4.params.toList ++ Rows.nearPolygonsSpec.plain.varTypes Try.prog) (ds ++ gs)).all (· ≤ reachBytes) = true := hsz0
  have hval : ∀ (j : Nat) t v, Try.f4.params[j]? = some t → args[j]? = some v → Value.okWide Try.prog W .any base t v := hval0
  have hW' := hW
  obtain ⟨p, q, hA0, hV, rfl, hfz, hnd⟩ := hW
  have hA : DataW.TrodAll enc Try.prog W 0 (fun _ => true) true Try.f4.params.toList args.toList ds p := hA0
  rw [Try.params4] at hA hval hsz
  obtain ⟨v0, vs0, d0, ds0, p0, q0, hargs, rfl, rfl, h0, r0⟩ := trodAll_cons hA
  obtain ⟨v1, vs1, d1, ds1, p1, q1, rfl, rfl, rfl, h1, r1⟩ := trodAll_cons r0
  obtain ⟨rfl, rfl, rfl⟩ := trodAll_nil r1
  obtain rfl : args = #[v0, v1] := by cases args; simp_all
  obtain ⟨rfl, rfl⟩ := trodVars_none hV
  obtain ⟨a0, len0, cap0, rfl⟩ := okWide_slice Try.underlying36 (hval 0 36 v0 rfl rfl)
  obtain ⟨c1, k1, z1, u1, m1, rfl, rfl, rfl, hz1, hu1⟩ := open_agg2 Try.underlying24 (by kernel_rfl) cellsV (hval 1 24 v1 rfl rfl) h1
  obtain ⟨x1, e0, rfl, wx1⟩ := trod_fl Try.underlying22 hz1
  obtain ⟨y1, e1, rfl, wy1⟩ := trod_fl Try.underlying22 hu1
  simp at e0 e1
  subst e0 e1
  have k0 := h0
  have lt0 : ∀ x ∈ p0, x.block < W.heap.size := by obtain ⟨m, hm⟩ := k0; exact DataW.trod_lt m _ _ _ hm
  have w0 : IsWays W a0 len0 cap0 := by
    obtain ⟨fuel, hf⟩ := h0
    rcases Go.Deep.open_slice_pairs Try.underlying36 Try.underlying24 (by kernel_rfl) rfl rfl (by kernel_rfl) (by kernel_rfl) hf with ⟨hcs, _⟩ | ⟨x, l, c, m, n, V0, V1, D0, D1, P0, P1, hcs, _, hl, hm, hmm, hx, hcell⟩
    · simp [Value.cells] at hcs
      exact .inl hcs
    · simp [Value.cells] at hcs
      obtain ⟨rfl, rfl, rfl⟩ := hcs
      simp only [Prod.mk.injEq] at hx
      obtain ⟨rfl, rfl⟩ := hx
      have hr := sized_slice hsz (j := 0) (t := 36) (e := 24) rfl rfl Try.underlying36
      rw [show Try.prog.bytesOf 24 = 16 by kernel_rfl] at hr
      simp only [List.length_map, List.length_range, reachBytes] at hr
      have hlm : len0 ≤ m := by rw [hmm]; split <;> omega
      have V : ∀ i, ∃ xy : Nat × Nat, i < m → V0 i = .float .f64 xy.1 ∧ V1 i = .float .f64 xy.2 ∧ okK .f64 xy.1 ∧ okK .f64 xy.2 := by
        intro i
        by_cases hi : i < m
        · obtain ⟨_, _, h3, h4⟩ := hcell i hi
          obtain ⟨x, e0, _, wx⟩ := trod_fl Try.underlying22 h3
          obtain ⟨y, e1, _, wy⟩ := trod_fl Try.underlying22 h4
          simp at e0 e1
          exact ⟨(x, y), fun _ => ⟨e0, e1, wf_f64 wx, wf_f64 wy⟩⟩
        · exact ⟨(0, 0), fun h => absurd h hi⟩
      have V' := Classical.axiomOfChoice V
      obtain ⟨f, hf'⟩ := V'
      refine .inr ⟨x, fun i => (f i).1, fun i => (f i).2, rfl, hl, hm, by omega, fun i hi => ?_⟩
      obtain ⟨e0, e1, o0, o1⟩ := hf' i (by omega)
      obtain ⟨c0, c1, _, _⟩ := hcell i (by omega)
      rw [e0] at c0
      rw [e1] at c1
      exact ⟨c0, c1, o0, o1⟩
  clear hA0 hval0 hsz0
  refine (walk a0 len0 cap0 x1 y1 (wf_f64 wx1) (wf_f64 wy1) W w0).mono fun e W' ⟨he, bel0⟩ => ?_
  have bel := bel0
  subst he
  exact ⟨_, rfl, _, _, _, [], _, [], hW', trodAll_mk1 (shut_bool Try.underlying4 _), (trodAll_cons_mk (Below.trod laidOut (by kernel_rfl) (of_decide_eq_true (by kernel_rfl)) k0 bel lt0) (trodAll_cons_mk (shut_agg2 (y0 := (.lit (.float .f64 x1), [])) (y1 := (.lit (.float .f64 y1), [])) Try.underlying24 (by kernel_rfl) cellsV ⟨1, by simp [DataW.trod, show Try.checked.prog.underlying 22 = some (.float .f64) from Try.underlying22, wx1]⟩ ⟨1, by simp [DataW.trod, show Try.checked.prog.underlying 22 = some (.float .f64) from Try.underlying22, wy1]⟩) trodAll_mk0)), rfl, bel.frame _, fun h => by cases h⟩

theorem over : Rows.nearPolygonsRow.holds Try.pinned (OpenSpec.ofChange Rows.nearPolygonsSpec) :=
  OpenClaim.holds_of_wide 4 Try.f4 rfl rfl rfl rfl rfl rfl rfl ⟨rfl, rfl, rfl, rfl, rfl⟩ rfl rfl rfl rfl rfl (by kernel_rfl) Try.func4 (by kernel_rfl)
    (of_decide_eq_true (by kernel_rfl)) (by unfold Func.isWrapper; first | (rw [if_pos (by decide +kernel)]; kernel_rfl) | (rw [if_neg (by decide +kernel)]; exact ⟨rfl, rfl⟩))
    (fun os started H enc _ => lifted os started H enc)

theorem proved : Rows.NearPolygonsSaid :=
  over
#print axioms proved
end Go.Proofs.Ytpnkmflkjokhlaa.nearPolygons
