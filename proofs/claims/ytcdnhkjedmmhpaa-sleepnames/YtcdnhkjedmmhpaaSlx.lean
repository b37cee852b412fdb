/-
  What each function of package poly answers, and what the reference of its chapter answers: one contract a function, for every float: the answer stands in the relation of its formula to what was given; of the memory that was there nothing has turned.
-/
import Derived.Test.YtcdnhkjedmmhpaaVec
import Derived.Test.YtcdnhkjedmmhpaaSlw
import Derived.Below
import Derived.WalkKit
import Derived.WalkLawsBesides
import Derived.WalkSpells
import Derived.ProofKit
import Derived.OpenShut
import Derived.Deep.RegionHeld3
namespace Go.Proofs.Ytcdnhkjedmmhpaa
open Go.ChangeShapes Go.WideShapes Go.ChangeAt Go.RowKit
set_option linter.unusedVariables false
set_option linter.unusedSimpArgs false


def zS : Nat → SL := fun _ => ⟨0, false, 0, false, 0⟩
/-- slots just made are zero -/
theorem sls_zero (w : World) (n : Nat) (t : TypeId) : Sls (w.alloc (.cells (Builtin.zeroCells #[.int .u32 0, .bool false, .int .u8 0, .float .f64 0, .float .f64 0, .complex .f64 0 0, .float .f64 0, .float .f64 0, .float .f64 0, .float .f64 0, .float .f64 0, .float .f64 0, .float .f64 0, .float .f64 0, .slice none 0 0, .bool false, .int .i64 0, .bool false] n) t)) w.heap.size 0 n zS := fun i hi j v hj => by
  have hj18 : j < 18 := (List.getElem?_eq_some_iff.1 hj).1
  rw [Nat.zero_add, World.cell?_alloc_new]
  have hs : (#[.int .u32 0, .bool false, .int .u8 0, .float .f64 0, .float .f64 0, .complex .f64 0 0, .float .f64 0, .float .f64 0, .float .f64 0, .float .f64 0, .float .f64 0, .float .f64 0, .float .f64 0, .float .f64 0, .slice none 0 0, .bool false, .int .i64 0, .bool false] : Array Value).size = 18 := rfl
  have hm : (i * 18 + j) % 18 = j := by omega
  unfold Builtin.zeroCells
  rw [Array.getElem?_map, hs, Array.getElem?_range, if_pos (by omega)]
  simp only [Option.map_some, hm]
  rw [← hj]
  have e : slc (zS i) = (#[.int .u32 0, .bool false, .int .u8 0, .float .f64 0, .float .f64 0, .complex .f64 0 0, .float .f64 0, .float .f64 0, .float .f64 0, .float .f64 0, .float .f64 0, .float .f64 0, .float .f64 0, .float .f64 0, .slice none 0 0, .bool false, .int .i64 0, .bool false] : Array Value).toList := rfl
  rw [e, Array.getElem?_toList, Array.getElem?_eq_getElem (show j < (#[.int .u32 0, .bool false, .int .u8 0, .float .f64 0, .float .f64 0, .complex .f64 0 0, .float .f64 0, .float .f64 0, .float .f64 0, .float .f64 0, .float .f64 0, .float .f64 0, .float .f64 0, .float .f64 0, .slice none 0 0, .bool false, .int .i64 0, .bool false] : Array Value).size from hj18)]
  rw [getElem!_pos (#[.int .u32 0, .bool false, .int .u8 0, .float .f64 0, .float .f64 0, .complex .f64 0 0, .float .f64 0, .float .f64 0, .float .f64 0, .float .f64 0, .float .f64 0, .float .f64 0, .float .f64 0, .float .f64 0, .slice none 0 0, .bool false, .int .i64 0, .bool false] : Array Value) j hj18]

end Go.Proofs.Ytcdnhkjedmmhpaa
