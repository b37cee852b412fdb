/-
  What each function of package grid answers: one contract a function.
-/
import Derived.Test.YtekhnolpgoejdabGb
import Derived.Test.YtekhnolpgoejdabGmap
import Derived.Laws.FloatArith
import Derived.Laws.StructEq
import Derived.Deep.DeepCutAuto
import Derived.Laws.MakeOwn
import Derived.Below
import Derived.BigQuiet
import Derived.OwnWalk
import Derived.Laws.AppendOwn
import Derived.Laws.AppendOwnNone
import Derived.WalkKit
import Derived.WalkLawsBesides
import Derived.WalkSpells
import Derived.ProofKit
import Derived.OpenShut
import Derived.Deep.RegionHeld3
import Derived.Deep.LoopGhost
namespace Go.Proofs.Ytekhnolpgoejdab
open Go.ChangeShapes Go.WideShapes Go.ChangeAt Go.RowKit Go.Shelf Go.Lib Go.Sort
set_option linter.unusedVariables false
set_option linter.unusedSimpArgs false


theorem firstOf_s (a b : Sp4) (w : World) : Calls Try.prog 64 #[.agg #[.int .i64 a.1.1, .int .i64 a.1.2, .int .i64 a.2.1, .int .i64 a.2.2], .agg #[.int .i64 b.1.1, .int .i64 b.1.2, .int .i64 b.2.1, .int .i64 b.2.2]] w fun e w' => e = .returned (ceV (firstC a b)) ∧ Bel w w' := by
  obtain ⟨⟨l, m⟩, ⟨p, q⟩⟩ := a
  obtain ⟨⟨l', m'⟩, ⟨p', q'⟩⟩ := b
  simp only
  have B0 := bl_alloc (bl_alloc (bl_alloc (bl_refl w) #[.int .i64 l, .int .i64 m, .int .i64 p, .int .i64 q] 81) #[.int .i64 l', .int .i64 m', .int .i64 p', .int .i64 q'] 81) #[.int .i64 0, .int .i64 0] 75
  go_enter Try.func64, Try.ntmps64
  go_wp2
  refine bodyPost_ret (v := ceV (firstC ((l, m), p, q) ((l', m'), p', q'))) (by simp [results, Try.results64, go_sem, ceV, firstC]) rfl ⟨rfl, ?_⟩
  exact bl_alloc (bl_alloc (bl_alloc (bl_refl w) _ _) _ _) _ _

end Go.Proofs.Ytekhnolpgoejdab
