/-
  What each function of package turn answers, and what the reference of its chapter answers: one contract a function, for every float: the answer stands in the relation of its formula to what was given; of the memory that was there nothing has turned.
-/
import Derived.Test.YtbphmjfgpkjecabVec
import Derived.Test.YtbphmjfgpkjecabTurn
import Derived.Below
import Derived.WalkKit
import Derived.WalkLawsBesides
import Derived.WalkSpells
import Derived.ProofKit
import Derived.OpenShut
import Derived.Deep.RegionHeld3
namespace Go.Proofs.Ytbphmjfgpkjecab
open Go.ChangeShapes Go.WideShapes Go.ChangeAt Go.RowKit
set_option linter.unusedVariables false
set_option linter.unusedSimpArgs false


theorem lnumber_any (x y : Nat) (w : World) : Calls Try.prog 5 #[.agg #[.int .u64 ((x : Nat) : Int), .int .u64 ((y : Nat) : Int)]] w fun e w' => e = .returned (.complex .f64 x y) ∧ Bel w w' := by
  have q := from_run
  go_enter Try.func5, Try.ntmps5
  go_wp2
  go_region_held3 (fun w1 => w1.cell? ⟨w.heap.size, 0, none⟩ = some (.int .u64 (x : Nat)) ∧ w1.cell? ⟨w.heap.size, 1, none⟩ = some (.int .u64 (y : Nat))) (first | go_keep | (go_split_ands; go_keep)) (first | fail)
  all_goals go_wp2
  go_ret
  refine ⟨rfl, ?_⟩
  repeat (first | exact bl_refl _ | assumption | apply bl_drewN | apply bl_drew | apply bl_alloc | refine bl_set ?_ (by simp <;> omega) | refine bl_trans ?_ (by assumption))

end Go.Proofs.Ytbphmjfgpkjecab
