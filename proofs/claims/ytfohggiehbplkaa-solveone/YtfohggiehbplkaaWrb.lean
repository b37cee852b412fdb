/-
  What each function of package poly answers, and what the reference of its chapter answers: one contract a function, for every float: the answer stands in the relation of its formula to what was given; of the memory that was there nothing has turned.
-/
import Derived.Test.YtfohggiehbplkaaVec
import Derived.Test.YtfohggiehbplkaaWra
import Derived.Test.YtfohggiehbplkaaWf
import Derived.Test.YtfohggiehbplkaaWl
import Derived.Below
import Derived.WalkKit
import Derived.WalkLawsBesides
import Derived.WalkSpells
import Derived.ProofKit
import Derived.OpenShut
import Derived.Deep.RegionHeld3
namespace Go.Proofs.Ytfohggiehbplkaa
open Go.ChangeShapes Go.WideShapes Go.ChangeAt Go.RowKit
set_option linter.unusedVariables false
set_option linter.unusedSimpArgs false


theorem run_mul_o (t : TypeId) {m n x y : Nat} (w : World) (hx : Bd m x) (hy : Bd n y) (hn : m + n ≤ 900) : (binOp .mul t (.float .f64 x) (.float .f64 y)).run Try.prog w = .ok (.float .f64 (oF .mul x y)) w := by
  rw [run_mul_dv _ _ _ _ _ hx.2.1 hy.2.1, oF_dv (some_mul hx.2.1 hy.2.1) (bd_mul hx hy hn)]
theorem run_add_o (t : TypeId) {n x y : Nat} (w : World) (hx : Bd n x) (hy : Bd n y) (hn : n ≤ 900) : (binOp .add t (.float .f64 x) (.float .f64 y)).run Try.prog w = .ok (.float .f64 (oF .add x y)) w := by
  rw [run_add_dv _ _ _ _ _ hx.2.1 hy.2.1, oF_dv (some_add hx.2.1 hy.2.1) (bd_add hx hy hn)]
theorem calls_belz {P : Program} {f : FuncId} {args : Array Value} {W : World} {p : BelBy W} {v : Value}
    (h : Calls P f args p.world fun e w' => e = .returned v ∧ w' = p.world) : Calls P f args p.world fun e w'' => e = .returned v ∧ ∃ q : BelBy W, w'' = q.world :=
  h.mono fun _ w' ⟨he, hb⟩ => ⟨he, p, hb⟩
end Go.Proofs.Ytfohggiehbplkaa
