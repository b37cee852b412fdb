/-
  What each function of package poly answers, and what the reference of its chapter answers: one contract a function, for every float: the answer stands in the relation of its formula to what was given; of the memory that was there nothing has turned.
-/
import Derived.Test.YtfaiaepkmlmoaaaGreatVec
import Derived.Test.YtfaiaepkmlmoaaaGreatMi
import Derived.Below
import Derived.OwnWalk
import Derived.Laws.AppendOwn
import Derived.Laws.AppendOwnNone
import Derived.Laws.StructEq
import Derived.WalkKit
import Derived.WalkLawsBesides
import Derived.WalkSpells
import Derived.ProofKit
import Derived.OpenShut
import Derived.Deep.RegionHeld3
namespace Go.Proofs.YtfaiaepkmlmoaaaGreat
open Go.ChangeShapes Go.WideShapes Go.ChangeAt Go.RowKit
set_option linter.unusedVariables false
set_option linter.unusedSimpArgs false


theorem same8 (a b c d a' b' c' d' : Nat) (w : World) (h1 : smK .f64 a a' = true) (h2 : smK .f64 b b' = true) (h3 : smK .f64 c c' = true) (h4 : smK .f64 d d' = true) : Calls Tryz.prog 7 #[.agg #[.float .f64 a, .float .f64 b, .float .f64 c, .float .f64 d], .agg #[.float .f64 a', .float .f64 b', .float .f64 c', .float .f64 d']] w fun e w' => e = .returned (.bool true) ∧ Bel w w' := by
  go_enter Tryz.func7, Tryz.ntmps7
  go_wp2_with (first | (go_at_call 18; refine (rIs_any _ _ _).mono ?_; rintro e w' ⟨rfl, rfl⟩; (first | rw [h1] | rw [h2])) | (go_at_call 19; refine (rSame_any _ _ _ _ _).mono ?_; rintro e w' ⟨rfl, hb⟩; rw [h3, h4]))
  go_ret
  refine ⟨rfl, ?_⟩
  repeat (first | exact bl_refl _ | assumption | apply bl_drewN | apply bl_drew | apply bl_alloc | refine bl_set ?_ (by simp <;> omega) | refine bl_trans ?_ (by assumption))
/-- points that were lent: in memory of their own, with two marks behind -/
def Len2 (w : World) (g c n : Nat) (xs ys : Nat → Nat) : Prop := n + 2 ≤ c ∧ c ≤ maxLen ∧ Sl w g 0 n xs ys ∧ w.cell? ⟨g, n * 2, none⟩ = some (.float .f64 4635118810238550016) ∧ w.cell? ⟨g, n * 2 + 1, none⟩ = some (.float .f64 0) ∧ w.cell? ⟨g, (n + 1) * 2, none⟩ = some (.float .f64 4635189178982727680) ∧ w.cell? ⟨g, (n + 1) * 2 + 1, none⟩ = some (.float .f64 0)
theorem Len2.bel {w w' : World} {g c n : Nat} {xs ys : Nat → Nat} (h : Len2 w g c n xs ys) (b : Bel w w') : Len2 w' g c n xs ys := ⟨h.1, h.2.1, h.2.2.1.bel b, keep b h.2.2.2.1, keep b h.2.2.2.2.1, keep b h.2.2.2.2.2.1, keep b h.2.2.2.2.2.2⟩
theorem Len2.any {w : World} {g c n : Nat} {xs ys : Nat → Nat} (h : Len2 w g c n xs ys) (o : Oks xs ys n) (hr : n * 16 ≤ 140737488351232) : AnyS w (.slice (some ⟨g, 0, none⟩) n c) n xs ys := by
  refine ⟨_, _, rfl, by have := h.1; omega, by have := h.1; have := h.2.1; omega, hr, o, ?_⟩
  rcases Nat.eq_zero_or_pos n with e | e
  · exact .inl e
  · exact .inr ⟨e, g, 0, rfl, h.2.2.1⟩
end Go.Proofs.YtfaiaepkmlmoaaaGreat
