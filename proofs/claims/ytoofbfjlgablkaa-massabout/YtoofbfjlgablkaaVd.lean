/-
  What each function of package poly answers, and what the reference of its chapter answers: one contract a function, for every float: the answer stands in the relation of its formula to what was given; of the memory that was there nothing has turned.
-/
import Derived.Test.YtoofbfjlgablkaaVec
import Derived.Test.YtoofbfjlgablkaaVec
import Derived.Test.YtoofbfjlgablkaaGeo
import Derived.Test.YtoofbfjlgablkaaBel
import Derived.Below
import Derived.WalkKit
import Derived.WalkLawsBesides
import Derived.WalkSpells
import Derived.ProofKit
import Derived.OpenShut
import Derived.Deep.RegionHeld3
namespace Go.Proofs.Ytoofbfjlgablkaa
open Go.ChangeShapes Go.WideShapes Go.ChangeAt Go.RowKit
set_option linter.unusedVariables false
set_option linter.unusedSimpArgs false


theorem wbd {n x : Nat} (h : Bd n x) (m : Nat) (hm : n ≤ m) : Bd m x := bd_mono h hm
theorem bd0 (n : Nat) : Bd n 0 := ⟨by rw [okK64]; decide, by decide +kernel, Rat.le_trans (by decide +kernel) (two_ge1 n)⟩

theorem vAdd_d {n ax ay bx b_y : Nat} (w : World) (h1 : Bd n ax) (h2 : Bd n ay) (h3 : Bd n bx) (h4 : Bd n b_y) : Calls Try.prog 60 #[.agg #[.float .f64 ax, .float .f64 ay], .agg #[.float .f64 bx, .float .f64 b_y]] w fun e w' => e = .returned (.agg #[.float .f64 (Dv .add ax bx), .float .f64 (Dv .add ay b_y)]) ∧ Bel w w' :=
  (vAdd_any _ _ _ _ w).mono fun e w' ⟨x, y, h, he, hb⟩ => ⟨by obtain ⟨e1, e2⟩ := addR_d h1 h2 h3 h4 h; rw [he, e1, e2], hb⟩

theorem vSub_d {n ax ay bx b_y : Nat} (w : World) (h1 : Bd n ax) (h2 : Bd n ay) (h3 : Bd n bx) (h4 : Bd n b_y) : Calls Try.prog 44 #[.agg #[.float .f64 ax, .float .f64 ay], .agg #[.float .f64 bx, .float .f64 b_y]] w fun e w' => e = .returned (.agg #[.float .f64 (Dv .sub ax bx), .float .f64 (Dv .sub ay b_y)]) ∧ Bel w w' :=
  (vSub_any _ _ _ _ w).mono fun e w' ⟨x, y, h, he, hb⟩ => ⟨by obtain ⟨e1, e2⟩ := subR_d h1 h2 h3 h4 h; rw [he, e1, e2], hb⟩

theorem vScale_d {n m ax ay s : Nat} (w : World) (h1 : Bd n ax) (h2 : Bd n ay) (h3 : Bd m s) : Calls Try.prog 67 #[.agg #[.float .f64 ax, .float .f64 ay], .float .f64 s] w fun e w' => e = .returned (.agg #[.float .f64 (Dv .mul ax s), .float .f64 (Dv .mul ay s)]) ∧ Bel w w' :=
  (vScale_any _ _ _ w).mono fun e w' ⟨x, y, h, he, hb⟩ => ⟨by obtain ⟨e1, e2⟩ := scaleR_d h1 h2 h3 h; rw [he, e1, e2], hb⟩

theorem vCross_d {n m ax ay bx b_y : Nat} (w : World) (h1 : Bd n ax) (h2 : Bd n ay) (h3 : Bd m bx) (h4 : Bd m b_y) (hn : n + m ≤ 800) : Calls Try.prog 61 #[.agg #[.float .f64 ax, .float .f64 ay], .agg #[.float .f64 bx, .float .f64 b_y]] w fun e w' => e = .returned (.float .f64 (crK ax ay bx b_y)) ∧ Bel w w' :=
  (vCross_any _ _ _ _ w).mono fun e w' ⟨r, h, he, hb⟩ => ⟨by rw [he, crossR_d h1 h2 h3 h4 hn h], hb⟩

theorem vDot_d {n m ax ay bx b_y : Nat} (w : World) (h1 : Bd n ax) (h2 : Bd n ay) (h3 : Bd m bx) (h4 : Bd m b_y) (hn : n + m ≤ 800) : Calls Try.prog 56 #[.agg #[.float .f64 ax, .float .f64 ay], .agg #[.float .f64 bx, .float .f64 b_y]] w fun e w' => e = .returned (.float .f64 (dtK ax ay bx b_y)) ∧ Bel w w' :=
  (vDot_any _ _ _ _ w).mono fun e w' ⟨r, h, he, hb⟩ => ⟨by rw [he, dotR_d h1 h2 h3 h4 hn h], hb⟩

theorem vLength_d {n ax ay : Nat} (w : World) (h1 : Bd n ax) (h2 : Bd n ay) (hn : n ≤ 400) : Calls Try.prog 51 #[.agg #[.float .f64 ax, .float .f64 ay]] w fun e w' => e = .returned (.float .f64 (lnK ax ay)) ∧ Bel w w' :=
  (vLength_any _ _ w).mono fun e w' ⟨r, h, he, hb⟩ => ⟨by rw [he, lengthR_d h1 h2 hn h], hb⟩

theorem vSquare_d {n ax ay : Nat} (w : World) (h1 : Bd n ax) (h2 : Bd n ay) (hn : n ≤ 400) : Calls Try.prog 43 #[.agg #[.float .f64 ax, .float .f64 ay]] w fun e w' => e = .returned (.float .f64 (dtK ax ay ax ay)) ∧ Bel w w' :=
  (vSquare_any _ _ w).mono fun e w' ⟨r, h, he, hb⟩ => ⟨by rw [he, dotR_d h1 h2 h1 h2 (by omega) h], hb⟩

theorem rSub_d {n ax ay bx b_y : Nat} (w : World) (h1 : Bd n ax) (h2 : Bd n ay) (h3 : Bd n bx) (h4 : Bd n b_y) : Calls Try.prog 29 #[.agg #[.float .f64 ax, .float .f64 ay], .agg #[.float .f64 bx, .float .f64 b_y]] w fun e w' => e = .returned (.agg #[.float .f64 (Dv .sub ax bx), .float .f64 (Dv .sub ay b_y)]) ∧ Bel w w' :=
  (rSub_any _ _ _ _ w).mono fun e w' ⟨x, y, h, he, hb⟩ => ⟨by obtain ⟨e1, e2⟩ := subR_d h1 h2 h3 h4 h; rw [he, e1, e2], hb⟩

theorem rDot_d {n m ax ay bx b_y : Nat} (w : World) (h1 : Bd n ax) (h2 : Bd n ay) (h3 : Bd m bx) (h4 : Bd m b_y) (hn : n + m ≤ 800) : Calls Try.prog 47 #[.agg #[.float .f64 ax, .float .f64 ay], .agg #[.float .f64 bx, .float .f64 b_y]] w fun e w' => e = .returned (.float .f64 (dtK ax ay bx b_y)) ∧ Bel w w' :=
  (rDot_any _ _ _ _ w).mono fun e w' ⟨r, h, he, hb⟩ => ⟨by rw [he, dotR_d h1 h2 h3 h4 hn h], hb⟩

theorem rSquare_d {n ax ay : Nat} (w : World) (h1 : Bd n ax) (h2 : Bd n ay) (hn : n ≤ 400) : Calls Try.prog 28 #[.agg #[.float .f64 ax, .float .f64 ay]] w fun e w' => e = .returned (.float .f64 (dtK ax ay ax ay)) ∧ Bel w w' :=
  (rSquare_any _ _ w).mono fun e w' ⟨r, h, he, hb⟩ => ⟨by rw [he, dotR_d h1 h2 h1 h2 (by omega) h], hb⟩


end Go.Proofs.Ytoofbfjlgablkaa
