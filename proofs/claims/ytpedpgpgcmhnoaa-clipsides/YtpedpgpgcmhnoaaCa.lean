/-
  What each function of package poly answers, and what the reference of its chapter answers: one contract a function, for every float: the answer stands in the relation of its formula to what was given; of the memory that was there nothing has turned.
-/
import Derived.Test.YtpedpgpgcmhnoaaVec
import Derived.Test.YtpedpgpgcmhnoaaRx
import Derived.Test.YtpedpgpgcmhnoaaClp
import Derived.Test.YtpedpgpgcmhnoaaMulti
import Derived.Below
import Derived.WalkKit
import Derived.WalkLawsBesides
import Derived.WalkSpells
import Derived.ProofKit
import Derived.OpenShut
import Derived.Deep.RegionHeld3
namespace Go.Proofs.Ytpedpgpgcmhnoaa
open Go.ChangeShapes Go.WideShapes Go.ChangeAt Go.RowKit
set_option linter.unusedVariables false
set_option linter.unusedSimpArgs false


set_option maxHeartbeats 2000000 in
theorem cchk_any (nx ny fd : Nat) (w : World) (o1 : okK .f64 nx) (o2 : okK .f64 ny) (o3 : okK .f64 fd) : Calls Try.prog 10 #[.agg #[.float .f64 nx, .float .f64 ny, .float .f64 fd]] w fun e w' => e = .returned (.int .i64 (pE (nx, ny, fd))) ∧ Bel w w' := by
  have c1 := cmp_ge .f64
  have c2 := cmp_le .f64
  have om : okK .f64 4611686018427387904 := by rw [okK64]; decide
  have of : okK .f64 4796333603149578240 := by rw [okK64]; decide
  have al := World.cell?_alloc_some
  cases hW : (withinK .f64 nx 4611686018427387904 && withinK .f64 ny 4611686018427387904)
  · go_enter Try.func10, Try.ntmps10
    go_wp2_with (first | (go_at_call 25; refine (vSquare_any _ _ _).mono ?_; rintro e w' ⟨t, hD, rfl, hb⟩; have B := hb; obtain ⟨hc, hf⟩ := bcell B; have hz := B.size; (try simp at hz)) | (go_at_call 45; refine (vWithin_any _ _ _ _).mono ?_; rintro e w' ⟨rfl, hb⟩; rw [hW]; clear hc hf hz; have B := bl_trans B hb; obtain ⟨hc, hf⟩ := bcell B; have hz := B.size; (try simp at hz)))
    go_ret
    refine ⟨by unfold pE pnB; simp only [hW, Bool.false_and]; rfl, ?_⟩
    repeat (first | exact bl_refl _ | assumption | apply bl_drewN | apply bl_drew | apply bl_alloc | refine bl_set ?_ (by simp <;> omega) | refine bl_trans ?_ (by assumption))
  have b1 := bd_w1 o1 (by simp only [Bool.and_eq_true] at hW; exact hW.1)
  have b2 := bd_w1 o2 (by simp only [Bool.and_eq_true] at hW; exact hW.2)
  have e3 := abs_within fd 4796333603149578240 of
  
  cases h1 : leK .f64 4607182418800009216 (dtK nx ny nx ny) <;> cases h2 : leK .f64 (dtK nx ny nx ny) 4607182418800021504 <;> cases h3 : withinK .f64 fd 4796333603149578240
  all_goals
    rw [h3] at e3
    go_enter Try.func10, Try.ntmps10
    go_wp2_with (first | (go_at_call 25; refine (vSquare_d _ (by with_reducible assumption) (by with_reducible assumption) (by decide)).mono ?_; rintro e w' ⟨rfl, hb⟩; have B := hb; obtain ⟨hc, hf⟩ := bcell B; have hz := B.size; (try simp at hz)) | (go_at_call 45; refine (vWithin_any _ _ _ _).mono ?_; rintro e w' ⟨rfl, hb⟩; rw [hW]; clear hc hf hz; have B := bl_trans B hb; obtain ⟨hc, hf⟩ := bcell B; have hz := B.size; (try simp at hz)) | (go_at_call 12; refine (abs_any _ _ (by assumption)).mono ?_; rintro e w' ⟨rfl, rfl⟩))
    go_ret
    refine ⟨by unfold pE pnB; simp only [hW, h1, h2, h3, Bool.and_true, Bool.and_false, Bool.true_and, Bool.false_and]; rfl, ?_⟩
    repeat (first | exact bl_refl _ | assumption | apply bl_drewN | apply bl_drew | apply bl_alloc | refine bl_set ?_ (by simp <;> omega) | refine bl_trans ?_ (by assumption))


end Go.Proofs.Ytpedpgpgcmhnoaa
