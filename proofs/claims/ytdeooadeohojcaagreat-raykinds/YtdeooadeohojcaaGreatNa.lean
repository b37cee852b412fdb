/-
  What each function of package poly answers, and what the reference of its chapter answers: one contract a function, for every float: the answer stands in the relation of its formula to what was given; of the memory that was there nothing has turned.
-/
import Derived.Test.YtdeooadeohojcaaGreatVec
import Derived.Test.YtdeooadeohojcaaGreatPa
import Derived.Test.YtdeooadeohojcaaGreatLsa
import Derived.Test.YtdeooadeohojcaaGreatOnce
import Derived.Below
import Derived.WalkKit
import Derived.WalkLawsBesides
import Derived.WalkSpells
import Derived.ProofKit
import Derived.OpenShut
import Derived.Deep.RegionHeld3
namespace Go.Proofs.YtdeooadeohojcaaGreat
open Go.ChangeShapes Go.WideShapes Go.ChangeAt Go.RowKit
set_option linter.unusedVariables false
set_option linter.unusedSimpArgs false


theorem put5_all {W : World} {n : Nat} {p q r s t p0 q0 r0 s0 t0 : Value} (h0 : W.cell? ⟨n, 0, none⟩ = some p0) (h1 : W.cell? ⟨n, 1, none⟩ = some q0) (h2 : W.cell? ⟨n, 2, none⟩ = some r0) (h3 : W.cell? ⟨n, 3, none⟩ = some s0) (h4 : W.cell? ⟨n, 4, none⟩ = some t0) : ∃ W', W' = ((((W.setCell ⟨n, 0, none⟩ p).setCell ⟨n, 1, none⟩ q).setCell ⟨n, 2, none⟩ r).setCell ⟨n, 3, none⟩ s).setCell ⟨n, 4, none⟩ t ∧ W'.cell? ⟨n, 0, none⟩ = some p ∧ W'.cell? ⟨n, 1, none⟩ = some q ∧ W'.cell? ⟨n, 2, none⟩ = some r ∧ W'.cell? ⟨n, 3, none⟩ = some s ∧ W'.cell? ⟨n, 4, none⟩ = some t ∧ (∀ b o, (b ≠ n ∨ 5 ≤ o) → W'.cell? ⟨b, o, none⟩ = W.cell? ⟨b, o, none⟩) ∧ (∀ w, Bel w W → w.heap.size ≤ n → Bel w W') := by
  obtain ⟨X, hX, a0, a1, a2, a3, aF, aB⟩ := put4_all (p := p) (q := q) (r := r) (s := s) h0 h1 h2 h3
  rw [← hX]
  refine ⟨_, rfl, ?_, ?_, ?_, ?_, ?_, fun b o h => (set_else (by omega)).trans (aF b o (by omega)), fun w hb hn => bl_set (aB w hb hn) hn⟩
  · rw [set_away (by decide)]; exact a0
  · rw [set_away (by decide)]; exact a1
  · rw [set_away (by decide)]; exact a2
  · rw [set_away (by decide)]; exact a3
  · exact World.cell?_setCell_same _ _ _ ((aF _ _ (by omega)).trans h4)

theorem vSub_n {ax ay bx b_y : Nat} {A B : Vp} (w : World) (ha : isP ax ay A) (hb_ : isP bx b_y B) : Calls Tryz.prog 19 #[.agg #[.float .f64 ax, .float .f64 ay], .agg #[.float .f64 bx, .float .f64 b_y]] w fun e w' => ∃ x y, isP x y (suF A B) ∧ e = .returned (.agg #[.float .f64 x, .float .f64 y]) ∧ Bel w w' :=
  (vSub_any _ _ _ _ w).mono fun e w' ⟨x, y, h, he, hb⟩ => ⟨x, y, h.is ha hb_, he, hb⟩
theorem vDot_n {ax ay bx b_y : Nat} {A B : Vp} (w : World) (ha : isP ax ay A) (hb_ : isP bx b_y B) : Calls Tryz.prog 21 #[.agg #[.float .f64 ax, .float .f64 ay], .agg #[.float .f64 bx, .float .f64 b_y]] w fun e w' => ∃ r, isF r (dtF A B) ∧ e = .returned (.float .f64 r) ∧ Bel w w' :=
  (vDot_any _ _ _ _ w).mono fun e w' ⟨r, h, he, hb⟩ => ⟨r, h.is ha hb_, he, hb⟩
theorem vCross_n {ax ay bx b_y : Nat} {A B : Vp} (w : World) (ha : isP ax ay A) (hb_ : isP bx b_y B) : Calls Tryz.prog 39 #[.agg #[.float .f64 ax, .float .f64 ay], .agg #[.float .f64 bx, .float .f64 b_y]] w fun e w' => ∃ r, isF r (crF A B) ∧ e = .returned (.float .f64 r) ∧ Bel w w' :=
  (vCross_any _ _ _ _ w).mono fun e w' ⟨r, h, he, hb⟩ => ⟨r, h.is ha hb_, he, hb⟩
theorem vSquare_n {ax ay : Nat} {A : Vp} (w : World) (ha : isP ax ay A) : Calls Tryz.prog 20 #[.agg #[.float .f64 ax, .float .f64 ay]] w fun e w' => ∃ r, isF r (dtF A A) ∧ e = .returned (.float .f64 r) ∧ Bel w w' :=
  (vSquare_any _ _ w).mono fun e w' ⟨r, h, he, hb⟩ => ⟨r, h.is ha ha, he, hb⟩
theorem vLength_n {ax ay : Nat} {A : Vp} (w : World) (ha : isP ax ay A) : Calls Tryz.prog 38 #[.agg #[.float .f64 ax, .float .f64 ay]] w fun e w' => ∃ r, isF r (lnF A) ∧ e = .returned (.float .f64 r) ∧ Bel w w' :=
  (vLength_any _ _ w).mono fun e w' ⟨r, h, he, hb⟩ => ⟨r, h.is ha, he, hb⟩
theorem vMore_n {ax ay q bx b_y Q : Nat} {A B : Vp} (w : World) (ha : isP ax ay A) (hq : isF q Q) (hb_ : isP bx b_y B) : Calls Tryz.prog 26 #[.agg #[.float .f64 ax, .float .f64 ay], .float .f64 q, .agg #[.float .f64 bx, .float .f64 b_y]] w fun e w' => ∃ x y, isP x y (moF A Q B) ∧ e = .returned (.agg #[.float .f64 x, .float .f64 y]) ∧ Bel w w' :=
  (vMore_any _ _ _ _ _ w).mono fun e w' ⟨x, y, h, he, hb⟩ => ⟨x, y, h.is ha hq hb_, he, hb⟩


end Go.Proofs.YtdeooadeohojcaaGreat
