/-
  What each function of package poly answers, and what the reference of its chapter answers: one contract a function, for every float: the answer stands in the relation of its formula to what was given; of the memory that was there nothing has turned.
-/
import Derived.Test.YtcdnhkjedmmhpaaVec
import Derived.Test.YtcdnhkjedmmhpaaVec
import Derived.Test.YtcdnhkjedmmhpaaOnc2
import Derived.Test.YtcdnhkjedmmhpaaKnot
import Derived.Test.YtcdnhkjedmmhpaaApps
import Derived.Test.YtcdnhkjedmmhpaaBel
import Derived.Below
import Derived.OwnWalk
import Derived.Laws.AppendOwn
import Derived.Lib.SliceRun
import Derived.Laws.MakeOwn
import Derived.WalkKit
import Derived.WalkLawsBesides
import Derived.WalkSpells
import Derived.ProofKit
import Derived.OpenShut
import Derived.Deep.RegionHeld3
namespace Go.Proofs.Ytcdnhkjedmmhpaa
open Go.ChangeShapes Go.WideShapes Go.ChangeAt Go.RowKit
set_option linter.unusedVariables false
set_option linter.unusedSimpArgs false


/-- a slot with a plain body: only its kind, its sleep, its calm steps are not nought -/
structure SL where
  u : Int
  l : Bool
  k : Int
  a : Bool
  c : Int
def slc (q : SL) : List Value := [.int .u32 q.u, .bool q.l, .int .u8 q.k, .float .f64 0, .float .f64 0, .complex .f64 0 0, .float .f64 0, .float .f64 0, .float .f64 0, .float .f64 0, .float .f64 0, .float .f64 0, .float .f64 0, .float .f64 0, .slice none 0 0, .bool q.a, .int .i64 q.c, .bool false]
def Sls (w : World) (b off n : Nat) (S : Nat → SL) : Prop := ∀ i, i < n → w.rangeAt b (off + i * 18) (slc (S i))
theorem rng_new (w : World) (cs : List Value) (t : TypeId) : (w.alloc (.cells cs.toArray t)).rangeAt w.heap.size 0 cs := fun j v h => by
  rw [Nat.zero_add, World.cell?_alloc_new]; simpa using h
theorem rng_bel {W W' : World} {b o : Nat} {cs : List Value} (h : W.rangeAt b o cs) (g : Bel W W') : W'.rangeAt b o cs := fun j v hv => keep g (h j v hv)
theorem up_alloc {W : World} {a : Addr} {v : Value} {o : Obj} (h : W.cell? a = some v) : (W.alloc o).cell? a = some v := (World.cell?_alloc_some W a o (by rw [h]; rfl)).trans h
theorem Sls.bel {w w' : World} {b off n : Nat} {S : Nat → SL} (h : Sls w b off n S) (g : Bel w w') : Sls w' b off n S := fun i hi => rng_bel (h i hi) g
theorem Sls.lt {w : World} {b off n i : Nat} {S : Nat → SL} (h : Sls w b off n S) (hi : i < n) : b < w.heap.size := World.block_lt_of_cell? w _ (h i hi 0 _ rfl)
theorem info_slot : (Try.prog.info? 42).map (fun i => (i.zero, i.size, i.bytes)) = some (some (.agg #[.int .u32 0, .bool false, .int .u8 0, .float .f64 0, .float .f64 0, .complex .f64 0 0, .float .f64 0, .float .f64 0, .float .f64 0, .float .f64 0, .float .f64 0, .float .f64 0, .float .f64 0, .float .f64 0, .slice none 0 0, .bool false, .int .i64 0, .bool false]), 18, 160) := by kernel_rfl
theorem info_state : (Try.prog.info? 31).map (fun i => (i.zero, i.size)) = some (some (.agg #[.float .f64 0, .float .f64 0, .float .f64 0, .int .i64 0, .float .f64 0, .float .f64 0, .float .f64 0, .float .f64 0, .float .f64 0, .int .i64 0, .slice none 0 0, .slice none 0 0, .slice none 0 0, .int .i64 0]), 14) := by kernel_rfl
theorem info_event : (Try.prog.info? 101).map (fun i => (i.zero, i.size, i.bytes)) = some (some (.agg #[.int .u8 0, .int .i64 0, .int .i64 0, .int .i64 0, .int .i64 0]), 5, 40) := by kernel_rfl

end Go.Proofs.Ytcdnhkjedmmhpaa
