/-
  What each function of package poly answers, and what the reference of its chapter answers: one contract a function, for every float: the answer stands in the relation of its formula to what was given; of the memory that was there nothing has turned.
-/
import Derived.Test.YtfohggiehbplkaaVec
import Derived.Test.YtfohggiehbplkaaWed
import Derived.Test.YtfohggiehbplkaaWee
import Derived.Test.YtfohggiehbplkaaWef
import Derived.Test.YtfohggiehbplkaaWeg
import Derived.Below
import Derived.WalkKit
import Derived.WalkLawsBesides
import Derived.WalkSpells
import Derived.ProofKit
import Derived.OpenShut
import Derived.Deep.RegionHeld3
namespace Go.Proofs.Ytfohggiehbplkaa
open Go.ChangeShapes Go.WideShapes Go.ChangeAt Go.RowKit
set_option linter.unusedVariables false
set_option linter.unusedSimpArgs false


theorem re_all (R0 : RD) (a0 b0 : SD) (w : World) (oR0 : rok R0) (oa0 : sok a0) (ob0 : sok b0) : Calls Try.prog 5 #[.agg #[.int .i64 R0.ra, .int .i64 R0.rb, .float .f64 R0.r2, .float .f64 R0.r3, .float .f64 R0.r4, .float .f64 R0.r5, .float .f64 R0.r6, .float .f64 R0.r7, .float .f64 R0.r8, .float .f64 R0.r9, .float .f64 R0.r10, .float .f64 R0.r11, .int .i64 R0.ro, .float .f64 R0.r13], .agg #[.float .f64 a0.sm, .float .f64 a0.si, .float .f64 a0.sx, .float .f64 a0.sy, .float .f64 a0.ss], .agg #[.float .f64 b0.sm, .float .f64 b0.si, .float .f64 b0.sx, .float .f64 b0.sy, .float .f64 b0.ss]] w fun e w' => e = .returned (.bool true) ∧ Bel w w' := by
  obtain ⟨R, hT⟩ : ∃ R, Teq R0 R := ⟨_, rfl⟩
  obtain ⟨a, hA⟩ : ∃ a, Seq9 a0 a := ⟨_, rfl⟩
  obtain ⟨b, hB⟩ : ∃ b, Seq9 b0 b := ⟨_, rfl⟩
  have e8 : R.r8 = 0 := by unfold Teq at hT; rw [hT]
  cases h1 : ltK .f64 R.r11 R.r9
  · cases h2 : ltK .f64 R.r10 R.r11
    · cases hw : ltK .f64 0 (wtF R a b)
      · exact re_zero R0 R a0 a b0 b w oR0 oa0 ob0 hT hA hB h1 h2 hw
      · exact re_sol R0 R a0 a b0 b w oR0 oa0 ob0 hT hA hB h1 h2 hw e8
    · exact re_over2 R0 R a0 a b0 b w oR0 oa0 ob0 hT hA hB h1 h2
  · exact re_over1 R0 R a0 a b0 b w oR0 oa0 ob0 hT hA hB h1

end Go.Proofs.Ytfohggiehbplkaa
