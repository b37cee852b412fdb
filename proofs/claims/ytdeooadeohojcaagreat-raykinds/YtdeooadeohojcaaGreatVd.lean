/-
  What each function of package poly answers, and what the reference of its chapter answers: one contract a function, for every float: the answer stands in the relation of its formula to what was given; of the memory that was there nothing has turned.
-/
import Derived.Test.YtdeooadeohojcaaGreatVec
import Derived.Test.YtdeooadeohojcaaGreatGeo
import Derived.Test.YtdeooadeohojcaaGreatBel
import Derived.Below
import Derived.WalkKit
import Derived.WalkLawsBesides
import Derived.WalkSpells
import Derived.ProofKit
import Derived.OpenShut
import Derived.Deep.RegionHeld3
namespace Go.Proofs.YtdeooadeohojcaaGreat
open Go.ChangeShapes Go.WideShapes Go.ChangeAt Go.RowKit
set_option linter.unusedVariables false
set_option linter.unusedSimpArgs false


theorem wbd {n x : Nat} (h : Bd n x) (m : Nat) (hm : n ≤ m) : Bd m x := bd_mono h hm
theorem vSub_d {n ax ay bx b_y : Nat} (w : World) (h1 : Bd n ax) (h2 : Bd n ay) (h3 : Bd n bx) (h4 : Bd n b_y) : Calls Tryz.prog 19 #[.agg #[.float .f64 ax, .float .f64 ay], .agg #[.float .f64 bx, .float .f64 b_y]] w fun e w' => e = .returned (.agg #[.float .f64 (Dv .sub ax bx), .float .f64 (Dv .sub ay b_y)]) ∧ Bel w w' :=
  (vSub_any _ _ _ _ w).mono fun e w' ⟨x, y, h, he, hb⟩ => ⟨by obtain ⟨e1, e2⟩ := subR_d h1 h2 h3 h4 h; rw [he, e1, e2], hb⟩

theorem vCross_d {n m ax ay bx b_y : Nat} (w : World) (h1 : Bd n ax) (h2 : Bd n ay) (h3 : Bd m bx) (h4 : Bd m b_y) (hn : n + m ≤ 800) : Calls Tryz.prog 39 #[.agg #[.float .f64 ax, .float .f64 ay], .agg #[.float .f64 bx, .float .f64 b_y]] w fun e w' => e = .returned (.float .f64 (crK ax ay bx b_y)) ∧ Bel w w' :=
  (vCross_any _ _ _ _ w).mono fun e w' ⟨r, h, he, hb⟩ => ⟨by rw [he, crossR_d h1 h2 h3 h4 hn h], hb⟩

theorem vDot_d {n m ax ay bx b_y : Nat} (w : World) (h1 : Bd n ax) (h2 : Bd n ay) (h3 : Bd m bx) (h4 : Bd m b_y) (hn : n + m ≤ 800) : Calls Tryz.prog 21 #[.agg #[.float .f64 ax, .float .f64 ay], .agg #[.float .f64 bx, .float .f64 b_y]] w fun e w' => e = .returned (.float .f64 (dtK ax ay bx b_y)) ∧ Bel w w' :=
  (vDot_any _ _ _ _ w).mono fun e w' ⟨r, h, he, hb⟩ => ⟨by rw [he, dotR_d h1 h2 h3 h4 hn h], hb⟩

theorem vLength_d {n ax ay : Nat} (w : World) (h1 : Bd n ax) (h2 : Bd n ay) (hn : n ≤ 400) : Calls Tryz.prog 38 #[.agg #[.float .f64 ax, .float .f64 ay]] w fun e w' => e = .returned (.float .f64 (lnK ax ay)) ∧ Bel w w' :=
  (vLength_any _ _ w).mono fun e w' ⟨r, h, he, hb⟩ => ⟨by rw [he, lengthR_d h1 h2 hn h], hb⟩

theorem vSquare_d {n ax ay : Nat} (w : World) (h1 : Bd n ax) (h2 : Bd n ay) (hn : n ≤ 400) : Calls Tryz.prog 20 #[.agg #[.float .f64 ax, .float .f64 ay]] w fun e w' => e = .returned (.float .f64 (dtK ax ay ax ay)) ∧ Bel w w' :=
  (vSquare_any _ _ w).mono fun e w' ⟨r, h, he, hb⟩ => ⟨by rw [he, dotR_d h1 h2 h1 h2 (by omega) h], hb⟩

theorem vUnit_d {n ax ay : Nat} (w : World) (h1 : Bd n ax) (h2 : Bd n ay) (hn : n ≤ 400) : Calls Tryz.prog 27 #[.agg #[.float .f64 ax, .float .f64 ay]] w fun e w' => e = .returned (.tuple #[.agg #[.float .f64 (unX ax ay), .float .f64 (unY ax ay)], .bool (unB ax ay)]) ∧ Bel w w' :=
  (vUnit_any _ _ w).mono fun e w' ⟨x, y, b, h, he, hb⟩ => ⟨by obtain ⟨e1, e2, e3⟩ := unitR_d h1 h2 hn h; rw [he, e1, e2, e3], hb⟩

theorem rSub_d {n ax ay bx b_y : Nat} (w : World) (h1 : Bd n ax) (h2 : Bd n ay) (h3 : Bd n bx) (h4 : Bd n b_y) : Calls Tryz.prog 30 #[.agg #[.float .f64 ax, .float .f64 ay], .agg #[.float .f64 bx, .float .f64 b_y]] w fun e w' => e = .returned (.agg #[.float .f64 (Dv .sub ax bx), .float .f64 (Dv .sub ay b_y)]) ∧ Bel w w' :=
  (rSub_any _ _ _ _ w).mono fun e w' ⟨x, y, h, he, hb⟩ => ⟨by obtain ⟨e1, e2⟩ := subR_d h1 h2 h3 h4 h; rw [he, e1, e2], hb⟩

theorem rCross_d {n m ax ay bx b_y : Nat} (w : World) (h1 : Bd n ax) (h2 : Bd n ay) (h3 : Bd m bx) (h4 : Bd m b_y) (hn : n + m ≤ 800) : Calls Tryz.prog 42 #[.agg #[.float .f64 ax, .float .f64 ay], .agg #[.float .f64 bx, .float .f64 b_y]] w fun e w' => e = .returned (.float .f64 (crK ax ay bx b_y)) ∧ Bel w w' :=
  (rCross_any _ _ _ _ w).mono fun e w' ⟨r, h, he, hb⟩ => ⟨by rw [he, crossR_d h1 h2 h3 h4 hn h], hb⟩

theorem rLength_d {n ax ay : Nat} (w : World) (h1 : Bd n ax) (h2 : Bd n ay) (hn : n ≤ 400) : Calls Tryz.prog 41 #[.agg #[.float .f64 ax, .float .f64 ay]] w fun e w' => e = .returned (.float .f64 (lnK ax ay)) ∧ Bel w w' :=
  (rLength_any _ _ w).mono fun e w' ⟨r, h, he, hb⟩ => ⟨by rw [he, lengthR_d h1 h2 hn h], hb⟩

theorem rUnit_d {n ax ay : Nat} (w : World) (h1 : Bd n ax) (h2 : Bd n ay) (hn : n ≤ 400) : Calls Tryz.prog 61 #[.agg #[.float .f64 ax, .float .f64 ay]] w fun e w' => e = .returned (.tuple #[.agg #[.float .f64 (unX ax ay), .float .f64 (unY ax ay)], .bool (unB ax ay)]) ∧ Bel w w' :=
  (rUnit_any _ _ w).mono fun e w' ⟨x, y, b, h, he, hb⟩ => ⟨by obtain ⟨e1, e2, e3⟩ := unitR_d h1 h2 hn h; rw [he, e1, e2, e3], hb⟩

end Go.Proofs.YtdeooadeohojcaaGreat
