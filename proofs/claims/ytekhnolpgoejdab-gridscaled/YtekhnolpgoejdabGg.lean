/-
  What each function of package grid answers: one contract a function.
-/
import Derived.Test.YtekhnolpgoejdabGf
import Derived.Laws.FloatArith
import Derived.Laws.StructEq
import Derived.Deep.DeepCutAuto
import Derived.Laws.MakeOwn
import Derived.Below
import Derived.BigQuiet
import Derived.OwnWalk
import Derived.Laws.AppendOwn
import Derived.Laws.AppendOwnNone
import Derived.WalkKit
import Derived.WalkLawsBesides
import Derived.WalkSpells
import Derived.ProofKit
import Derived.OpenShut
import Derived.Deep.RegionHeld3
import Derived.Deep.LoopGhost
namespace Go.Proofs.Ytekhnolpgoejdab
open Go.ChangeShapes Go.WideShapes Go.ChangeAt Go.RowKit Go.Shelf Go.Lib Go.Sort
set_option linter.unusedVariables false
set_option linter.unusedSimpArgs false


theorem eqc_run (a1 a2 b1 b2 : Int) (w : World) : (binOp .eql 75 (.agg #[.int .i64 a1, .int .i64 a2]) (.agg #[.int .i64 b1, .int .i64 b2])).run Try.prog w = .ok (.bool (decide ((a1, a2) = (b1, b2)))) w := by
  have q := fun (d : Nat) (x y : Int) => run_equalIn_int (P := Try.prog) w d 2 .i64 .i64 x y Try.underlying2
  by_cases h1 : a1 = b1
  all_goals by_cases h2 : a2 = b2
  all_goals simp [go_sem, q, h1, h2]
theorem eqk_run (a b : Ce) (w : World) : (Op.equal 75 (ceV a) (ceV b)).run Try.prog w = .ok (decide (a = b)) w := by
  have q := fun (d : Nat) (x y : Int) => run_equalIn_int (P := Try.prog) w d 2 .i64 .i64 x y Try.underlying2
  obtain ⟨a1, a2⟩ := a
  obtain ⟨b1, b2⟩ := b
  unfold ceV Op.equal Op.maxDepth
  by_cases h1 : a1 = b1
  all_goals by_cases h2 : a2 = b2
  all_goals simp [go_sem, q, h1, h2]
theorem ck_i64 (e : Bool) (n : Nat) (a : Int) (w : World) : (Instr.checkKey e (n + 1) 2 (.int .i64 a)).run Try.prog w = .ok () w := by
  simp [Instr.checkKey, run_underlying Try.underlying2]
theorem ckk_run (e : Bool) (c : Ce) (w : World) : (Instr.checkKey e 10000 75 (ceV c)).run Try.prog w = .ok () w := by
  obtain ⟨a1, a2⟩ := c
  have q := fun (n : Nat) (a : Int) => ck_i64 e n a w
  unfold ceV
  unfold Instr.checkKey
  simp only [Sem.run_bind, run_underlying Try.underlying75, Result.andThen_ok]
  simp [go_sem, q]
theorem eqg_cell : Try.prog.eqGuardType Try.prog.depth 75 = false := by kernel_rfl
theorem key_p : KeyP Try.prog 75 := ⟨eqk_run, ckk_run, ⟨_, Try.underlying75⟩⟩

end Go.Proofs.Ytekhnolpgoejdab
