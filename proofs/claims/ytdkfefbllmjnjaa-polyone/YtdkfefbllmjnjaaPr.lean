/-
  What each function of package poly answers, and what the reference of its chapter answers: one contract a function, for every float: the answer stands in the relation of its formula to what was given; of the memory that was there nothing has turned.
-/
import Derived.Test.YtdkfefbllmjnjaaVec
import Derived.Test.YtdkfefbllmjnjaaPq
import Derived.Below
import Derived.Laws.StructEq
import Derived.WalkKit
import Derived.WalkLawsBesides
import Derived.WalkSpells
import Derived.ProofKit
import Derived.OpenShut
import Derived.Deep.RegionHeld3
namespace Go.Proofs.Ytdkfefbllmjnjaa
open Go.ChangeShapes Go.WideShapes Go.ChangeAt Go.RowKit
set_option linter.unusedVariables false
set_option linter.unusedSimpArgs false


theorem square_b (w : World) : Calls Try.prog 59 #[] w fun e w' => ∃ b, e = .returned (.slice (some ⟨b, 0, none⟩) 4 4) ∧ Sl w' b 0 4 (px sqL) (py sqL) ∧ Bel w w' := (square_d w).mono fun e w' ⟨h1, h2, h3⟩ => ⟨_, h1, h2, h3⟩
set_option maxRecDepth 100000 in
set_option maxHeartbeats 8000000 in
theorem awake_any (w : World) : Calls Try.prog 17 #[] w fun e w' => e = .returned (.bool true) ∧ Bel w w' := by
  have c1 := cmp_eq .f64
  have q1 := fun (x y : Nat) (w : World) => run_equalIn_float Try.prog w 22 .f64 x y Try.underlying22
  have q3 := fun (d x y : Nat) (w : World) => run_equalIn_fl Try.prog w d 22 .f64 x y Try.underlying22
  have q4 := fun (x y : Nat) (w : World) => run_equalIn_fl Try.prog w 9997 22 .f64 x y Try.underlying22
  have e8 := eqK_self .f64
  have e4 : eqK .f64 4616189618054758400 4616189618054758400 = true := by decide +kernel
  have e1 : eqK .f64 4607182418800017408 4607182418800017408 = true := by decide +kernel
  go_enter Try.func17, Try.ntmps17
  go_wp2_with (first | (go_at_call 36; refine (hull_small _ 0 6 exL _ (exL_laid w) (oks_of rfl) (by decide) (by decide) (by decide) x_plc x_ord (by rw [x_hull]; exact x_chk)).mono ?_; rintro e w_1 ⟨v, rfl, hO, hb⟩; rw [x_hull] at hO; obtain ⟨g, c, rfl, _, hgc, _, hS, _⟩ := hO.get (by decide); simp only [show sqL.length = 4 from rfl] at hgc hS ⊢; have hC := bl_refl w_1; have hB1 := bl_trans (bl_alloc (bl_refl w) _ _) hb) | (go_at_call 59; refine (square_b _).mono ?_; rintro e w' ⟨b, rfl, hq, hb⟩; replace hC := (by first | exact bl_trans hC hb | exact bl_trans (bl_alloc hC _ _) hb : Bel w_1 w'); (try (replace k0 := keep hb k0; replace k1 := keep hb k1))) | (go_at_call 19; refine (area_d b 0 4 4 (px sqL) (py sqL) _ hq (oks_of (L := sqL) rfl) (by decide) (by unfold maxLen; decide) (by decide)).mono ?_; rintro e w' ⟨rfl, hb⟩; rw [x_area, x_fan]; replace hC := (by first | exact bl_trans hC hb | exact bl_trans (bl_alloc hC _ _) hb : Bel w_1 w'); (try (replace k0 := keep hb k0; replace k1 := keep hb k1))) | (go_at_call 21; refine (centre_d b 0 4 4 (px sqL) (py sqL) _ hq (oks_of (L := sqL) rfl) (by decide) (by unfold maxLen; decide) (by decide)).mono ?_; rintro e w' ⟨rfl, hb⟩; rw [x_cx, x_cy, x_fan]; replace hC := (by first | exact bl_trans hC hb | exact bl_trans (bl_alloc hC _ _) hb : Bel w_1 w'); obtain ⟨k0, k1⟩ := cell_own (W := w') (n := w'.heap.size) rfl (.float .f64 4607182418800017408) (.float .f64 4607182418800017408) 24; (try (replace kk0 := keep hb k0; replace k1 := keep hb k1))) | (go_at_call 38; refine (apart_d b 0 4 4 (px sqL) (py sqL) _ 0 4 4 (px otL) (py otL) _ (hq.bel (bl_alloc (bl_refl _) _ _)) (oks_of (L := sqL) rfl) (by decide) (by unfold maxLen; decide) (by decide) (otL_laid _) (oks_of (L := otL) rfl) (by decide) (by unfold maxLen; decide) (by decide) x_chk).mono ?_; rintro e w' ⟨rfl, hb⟩; rw [x_apv, x_apw, x_ap]; replace hb := bl_trans (bl_alloc (bl_refl _) _ _) hb; replace hC := (by first | exact bl_trans hC hb | exact bl_trans (bl_alloc hC _ _) hb : Bel w_1 w'); (try (replace k0 := keep hb k0; replace k1 := keep hb k1))) | (go_at_call 25; refine (has_d b 0 4 4 (px sqL) (py sqL) _ hq (oks_of (L := sqL) rfl) (by decide) (by unfold maxLen; decide) (by decide) _ _ (by rw [okK64]; decide) (by rw [okK64]; decide)).mono ?_; rintro e w' ⟨rfl, hb⟩; rw [x_has, x_with]; replace hC := (by first | exact bl_trans hC hb | exact bl_trans (bl_alloc hC _ _) hb : Bel w_1 w'); (try (replace k0 := keep hb k0; replace k1 := keep hb k1))) | (go_at_call 29; refine (chk_some b 0 2 4 (px sqL) (py sqL) _ (hq.lt_ (by decide)) (fun i hi => (oks_of (L := sqL) rfl) i (by show i < 4; omega)) (by decide) (by unfold maxLen; decide) (by decide)).mono ?_; rintro e w' ⟨rfl, hb⟩; rw [x_two]; replace hC := (by first | exact bl_trans hC hb | exact bl_trans (bl_alloc hC _ _) hb : Bel w_1 w'); (try (replace k0 := keep hb k0; replace k1 := keep hb k1))) | (go_at_call 33; refine (same_eq g 0 c b 0 4 4 (px sqL) (py sqL) _ (hS.bel hC) hq (by unfold maxLen; decide) hgc (by decide)).mono ?_; rintro e w' ⟨rfl, hb⟩; skip; replace hC := (by first | exact bl_trans hC hb | exact bl_trans (bl_alloc hC _ _) hb : Bel w_1 w'); (try (replace k0 := keep hb k0; replace k1 := keep hb k1))))
  go_ret
  exact ⟨rfl, bl_trans hB1 hC⟩

end Go.Proofs.Ytdkfefbllmjnjaa
