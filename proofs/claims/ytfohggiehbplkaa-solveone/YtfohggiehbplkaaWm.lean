/-
  Plain facts that go together.
-/
import Derived.Test.YtfohggiehbplkaaVec
import Derived.Test.YtfohggiehbplkaaWh
import Derived.Below
import Derived.WalkKit
import Derived.WalkLawsBesides
import Derived.WalkSpells
import Derived.ProofKit
import Derived.OpenShut
import Derived.Deep.RegionHeld3
import Derived.Test.YtfohggiehbplkaaWka
import Derived.Test.YtfohggiehbplkaaWke
namespace Go.Proofs.Ytfohggiehbplkaa
open Go.ChangeShapes Go.WideShapes Go.ChangeAt Go.RowKit
set_option linter.unusedSimpArgs false
set_option linter.unusedVariables false
def erF (R : RD) (a b : SD) : Int := bif alB R a b then 0 else 200
def nRd (Q : RD) : RD := ⟨Q.ra, Q.rb, bitsK Q.r2, bitsK Q.r3, bitsK Q.r4, bitsK Q.r5, bitsK Q.r6, bitsK Q.r7, bitsK Q.r8, bitsK Q.r9, bitsK Q.r10, bitsK Q.r11, Q.ro, bitsK Q.r13⟩
def isR (Q N : RD) : Prop := rok Q ∧ nRd Q = N
def Z5S : SD := ⟨0, 0, 0, 0, 0⟩
def Z14R : RD := ⟨0, 0, 0, 0, 0, 0, 0, 0, 0, 0, 0, 0, 0, 0⟩
def wtG (R : RD) (a b : SD) : Nat := bif alB R a b then wtF R a b else 0
theorem z5_is : isS Z5S Z5S := by refine ⟨?_, ?_⟩; (unfold sok Z5S; exact ⟨ok_zero, ok_zero, ok_zero, ok_zero, ok_zero⟩); (unfold nS Z5S; simp only [bits_zero])
theorem z14_is : isR Z14R Z14R := by refine ⟨?_, ?_⟩; (unfold rok Z14R; exact ⟨ok_zero, ok_zero, ok_zero, ok_zero, ok_zero, ok_zero, ok_zero, ok_zero, ok_zero, ok_zero, ok_zero⟩); (unfold nRd Z14R; simp only [bits_zero])
theorem wgt_any (R : RD) (a b : SD) (w : World) (oR : rok R) (oa : sok a) (ob : sok b) : Calls Try.prog 17 #[.agg #[.int .i64 R.ra, .int .i64 R.rb, .float .f64 R.r2, .float .f64 R.r3, .float .f64 R.r4, .float .f64 R.r5, .float .f64 R.r6, .float .f64 R.r7, .float .f64 R.r8, .float .f64 R.r9, .float .f64 R.r10, .float .f64 R.r11, .int .i64 R.ro, .float .f64 R.r13], .agg #[.float .f64 a.sm, .float .f64 a.si, .float .f64 a.sx, .float .f64 a.sy, .float .f64 a.ss], .agg #[.float .f64 b.sm, .float .f64 b.si, .float .f64 b.sx, .float .f64 b.sy, .float .f64 b.ss]] w fun e w' => ∃ r, isF r (wtG R a b) ∧ e = .returned (.tuple #[.float .f64 r, .int .i64 (erF R a b)]) ∧ Bel w w' := by
 unfold wtG erF
 cases h : alB R a b
 ·exact (wgt_no R a b w h).mono fun e w' ⟨he, hb⟩ => ⟨0, isF_zero, he, hb⟩
 ·exact (wgt_ok R a b w oR oa ob h).mono fun e w' ⟨r, hr, he, hb⟩ => ⟨r, hr, he, hb⟩
theorem one_same (R : RD) (a b : SD) (w : World) (oR : rok R) (oa : sok a) (ob : sok b) (hal : alB R a b = true) (g : slB R a b = false) : Calls Try.prog 18 #[.agg #[.int .i64 R.ra, .int .i64 R.rb, .float .f64 R.r2, .float .f64 R.r3, .float .f64 R.r4, .float .f64 R.r5, .float .f64 R.r6, .float .f64 R.r7, .float .f64 R.r8, .float .f64 R.r9, .float .f64 R.r10, .float .f64 R.r11, .int .i64 R.ro, .float .f64 R.r13], .agg #[.float .f64 a.sm, .float .f64 a.si, .float .f64 a.sx, .float .f64 a.sy, .float .f64 a.ss], .agg #[.float .f64 b.sm, .float .f64 b.si, .float .f64 b.sx, .float .f64 b.sy, .float .f64 b.ss]] w fun e w' => e = .returned (.tuple #[.agg #[.int .i64 R.ra, .int .i64 R.rb, .float .f64 R.r2, .float .f64 R.r3, .float .f64 R.r4, .float .f64 R.r5, .float .f64 R.r6, .float .f64 R.r7, .float .f64 R.r8, .float .f64 R.r9, .float .f64 R.r10, .float .f64 R.r11, .int .i64 R.ro, .float .f64 R.r13], .agg #[.float .f64 a.sm, .float .f64 a.si, .float .f64 a.sx, .float .f64 a.sy, .float .f64 a.ss], .agg #[.float .f64 b.sm, .float .f64 b.si, .float .f64 b.sx, .float .f64 b.sy, .float .f64 b.ss], .int .i64 0]) ∧ Bel w w' := by
 cases h1 : okB R a b
 ·exact one_s1 R a b w oR oa ob hal h1
 ·cases h2 : fiB R a b
  ·exact one_s2 R a b w oR oa ob hal h1 h2
  ·exact absurd g (by unfold slB; simp [h1, h2])
end Go.Proofs.Ytfohggiehbplkaa
