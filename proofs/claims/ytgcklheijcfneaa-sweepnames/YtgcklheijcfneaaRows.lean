/-
  No cell of these rows narrows 'for every input' (looked for: loops, veiled, ifaces, maps, wideKeys, modest, calm, conditions, laid).
  DERIVED. THE GIVEN ROWS OF THIS SEAT. 5 by the template 'for every input the law returns true; each argument reads behind the call as it read before'; 0 by the template 'total and deterministic' (their statements: YtgcklheijcfneaaTotals.lean).
  GIVEN WITH THE SEED: the statements are not yours to turn. If you find one false, say at which input.
  Laid BY PROGRAM, IN A SANDBOX (cutbox-rows.mjs): the forced cells as the released guide's own fill.sh prints them over the translation 083210a43826d383… (all of the seat's roots in one cut). By AI agents, Wed Nov 11 2026. No macro, syntax, notation, axiom, sorry.
-/
import Derived.Test.YtgcklheijcfneaaChecked
import GoSem.Claim
import GoSem.ClaimJoined
import GoSem.ClaimMapViews
import Derived.JoinedTies
import Derived.KernelRfl
namespace Go.Proofs.Ytgcklheijcfneaa
/- THE CELL 'sum', in the pinned program and in every row, IS THE sha256 OF THE DUMP (.gsa) THAT YtgcklheijcfneaaProg.lean LOADS. Nothing in Lean hashes anything: it is a label: what it is worth is what the hold of that sum in a sandbox is worth. -/
noncomputable def Try.pinned : Pinned := { name := "ytgcklheijcfneaa", sum := "083210a43826d38367f42be38b799ffcc0d681492510ae5403a7aa7fe36b7d9e", checked := Try.checked }
namespace Rows
def none {H : Type} : Left H := { results := [], args := [] }

/-- 'tumblelaw13.SweepNames': WHATEVER THE INPUT: true; the input reads as it did. -/
def sweepNamesSpec : ChangeSpec := { name := "sweepNames", fn := fun _ => fun
  | [] => { results := [.lit (.bool true)], args := [] }
  | _ => none }
def sweepNamesRow : OpenClaim := { program := "ytgcklheijcfneaa", sum := "083210a43826d38367f42be38b799ffcc0d681492510ae5403a7aa7fe36b7d9e", func := "tumble/tumblelaw13.SweepNames", spec := "sweepNames", inPlace := ["math.Float64frombits"], unfollowed := true, recurses := true, plainKeys := false, apart := false }
def SweepNamesSaid : Prop := sweepNamesRow.holds Try.pinned (OpenSpec.ofChange sweepNamesSpec)

/-- ITS FALSE NEIGHBOUR: 'it returns false'. Refute it at one input. -/
def sweepNamesWrong : ChangeSpec := { name := "sweepNames", fn := fun _ => fun
  | [] => { results := [.lit (.bool false)], args := [] }
  | _ => none }
def SweepNamesWrongFalsely : Prop := sweepNamesRow.holds Try.pinned (OpenSpec.ofChange sweepNamesWrong)

/-- 'tumblelaw13.SweepTurned': WHATEVER THE INPUT: true; the input reads as it did. -/
def sweepTurnedSpec : ChangeSpec := { name := "sweepTurned", fn := fun _ => fun
  | [d] => { results := [.lit (.bool true)], args := [d] }
  | _ => none }
def sweepTurnedRow : OpenClaim := { program := "ytgcklheijcfneaa", sum := "083210a43826d38367f42be38b799ffcc0d681492510ae5403a7aa7fe36b7d9e", func := "tumble/tumblelaw13.SweepTurned", spec := "sweepTurned", inPlace := ["math.Float64frombits"], unfollowed := true, recurses := true, plainKeys := false, apart := false }
def SweepTurnedSaid : Prop := sweepTurnedRow.holds Try.pinned (OpenSpec.ofChange sweepTurnedSpec)

/-- ITS FALSE NEIGHBOUR: 'it returns false'. Refute it at one input. -/
def sweepTurnedWrong : ChangeSpec := { name := "sweepTurned", fn := fun _ => fun
  | [d] => { results := [.lit (.bool false)], args := [d] }
  | _ => none }
def SweepTurnedWrongFalsely : Prop := sweepTurnedRow.holds Try.pinned (OpenSpec.ofChange sweepTurnedWrong)

/-- 'tumblelaw14.GridNames': WHATEVER THE INPUT: true; the input reads as it did. -/
def gridNamesSpec : ChangeSpec := { name := "gridNames", fn := fun _ => fun
  | [] => { results := [.lit (.bool true)], args := [] }
  | _ => none }
def gridNamesRow : OpenClaim := { program := "ytgcklheijcfneaa", sum := "083210a43826d38367f42be38b799ffcc0d681492510ae5403a7aa7fe36b7d9e", func := "tumble/tumblelaw14.GridNames", spec := "gridNames", inPlace := ["math.archFloor", "math.Float64bits", "math.Float64frombits", "math.archTrunc"], unfollowed := true, recurses := true, plainKeys := false, apart := false }
def GridNamesSaid : Prop := gridNamesRow.holds Try.pinned (OpenSpec.ofChange gridNamesSpec)

/-- ITS FALSE NEIGHBOUR: 'it returns false'. Refute it at one input. -/
def gridNamesWrong : ChangeSpec := { name := "gridNames", fn := fun _ => fun
  | [] => { results := [.lit (.bool false)], args := [] }
  | _ => none }
def GridNamesWrongFalsely : Prop := gridNamesRow.holds Try.pinned (OpenSpec.ofChange gridNamesWrong)

/-- 'tumblelaw14.GridLies': WHATEVER THE INPUT: true; the input reads as it did. -/
def gridLiesSpec : ChangeSpec := { name := "gridLies", fn := fun _ => fun
  | [d1, d2, d3] => { results := [.lit (.bool true)], args := [d1, d2, d3] }
  | _ => none }
def gridLiesRow : OpenClaim := { program := "ytgcklheijcfneaa", sum := "083210a43826d38367f42be38b799ffcc0d681492510ae5403a7aa7fe36b7d9e", func := "tumble/tumblelaw14.GridLies", spec := "gridLies", inPlace := ["math.archFloor", "math.Float64bits", "math.Float64frombits", "math.archTrunc"], unfollowed := true, recurses := true, plainKeys := false, apart := false }
def GridLiesSaid : Prop := gridLiesRow.holds Try.pinned (OpenSpec.ofChange gridLiesSpec)

/-- ITS FALSE NEIGHBOUR: 'it returns false'. Refute it at one input. -/
def gridLiesWrong : ChangeSpec := { name := "gridLies", fn := fun _ => fun
  | [d1, d2, d3] => { results := [.lit (.bool false)], args := [d1, d2, d3] }
  | _ => none }
def GridLiesWrongFalsely : Prop := gridLiesRow.holds Try.pinned (OpenSpec.ofChange gridLiesWrong)

/-- 'tumblelaw14.GridScaled': WHATEVER THE INPUT: true; the input reads as it did. -/
def gridScaledSpec : ChangeSpec := { name := "gridScaled", fn := fun _ => fun
  | [d1, d2] => { results := [.lit (.bool true)], args := [d1, d2] }
  | _ => none }
def gridScaledRow : OpenClaim := { program := "ytgcklheijcfneaa", sum := "083210a43826d38367f42be38b799ffcc0d681492510ae5403a7aa7fe36b7d9e", func := "tumble/tumblelaw14.GridScaled", spec := "gridScaled", inPlace := ["math.archFloor", "math.Float64bits", "math.Float64frombits", "math.archTrunc"], unfollowed := true, recurses := true, plainKeys := false, apart := false }
def GridScaledSaid : Prop := gridScaledRow.holds Try.pinned (OpenSpec.ofChange gridScaledSpec)

/-- ITS FALSE NEIGHBOUR: 'it returns false'. Refute it at one input. -/
def gridScaledWrong : ChangeSpec := { name := "gridScaled", fn := fun _ => fun
  | [d1, d2] => { results := [.lit (.bool false)], args := [d1, d2] }
  | _ => none }
def GridScaledWrongFalsely : Prop := gridScaledRow.holds Try.pinned (OpenSpec.ofChange gridScaledWrong)

/- THE SECOND FORM. 'bulk': how many values and letters a reading holds, each counted each time it is reached (what is shared counts as often as it is met; a slice's spare places count too). A statement '..UptoSaid' is the law's where the arguments, and the package variables that the reading takes, are together of bulk at most 1048576: NARROWER than '..Said'. Prove '..Said' where nothing that the law and all that it calls make is longer than what came in: it says more and counts as full. Else prove '..UptoSaid'. A law counts once. -/
mutual
def uptoBulk {H : Type} : DataW H → Nat
  | .lit (.string bytes) => bytes.length + 1
  | .lit _ => 1
  | .nil => 1
  | .ptr d => uptoBulk d + 1
  | .slice elems spare => uptoBulkAll elems + uptoBulkAll spare + 1
  | .agg parts => uptoBulkAll parts + 1
  | .iface _ d => uptoBulk d + 1
  | .map entries => uptoBulkEntries entries + 1
  | .held _ => 1
def uptoBulkAll {H : Type} : List (DataW H) → Nat
  | [] => 0
  | d :: r => uptoBulk d + uptoBulkAll r
def uptoBulkEntries {H : Type} : List (Lit × DataW H) → Nat
  | [] => 0
  | x :: r => uptoBulkEntry x + uptoBulkEntries r
def uptoBulkEntry {H : Type} : Lit × DataW H → Nat
  | (.string bytes, d) => bytes.length + uptoBulk d + 1
  | (_, d) => uptoBulk d + 1
 end
def uptoSmall : (H : Type) → List (DataW H) → Bool := fun _ ds => decide (uptoBulkAll ds ≤ 1048576)
def OpenSpec.upto (s : _root_.Go.ChangeSpec) : _root_.Go.OpenSpec := { _root_.Go.OpenSpec.ofChange s with cond := some uptoSmall }

/-- 'tumblelaw13.SweepNames', WHERE WHAT IT READS IS OF BULK AT MOST 1048576: true; the input reads as it did. -/
def sweepNamesUptoRow : OpenClaim := { program := "ytgcklheijcfneaa", sum := "083210a43826d38367f42be38b799ffcc0d681492510ae5403a7aa7fe36b7d9e", func := "tumble/tumblelaw13.SweepNames", spec := "sweepNames", inPlace := ["math.Float64frombits"], unfollowed := true, recurses := true, plainKeys := false, apart := false, narrowed := true }
def SweepNamesUptoSaid : Prop := sweepNamesUptoRow.holds Try.pinned (OpenSpec.upto sweepNamesSpec)

/-- 'tumblelaw13.SweepTurned', WHERE WHAT IT READS IS OF BULK AT MOST 1048576: true; the input reads as it did. -/
def sweepTurnedUptoRow : OpenClaim := { program := "ytgcklheijcfneaa", sum := "083210a43826d38367f42be38b799ffcc0d681492510ae5403a7aa7fe36b7d9e", func := "tumble/tumblelaw13.SweepTurned", spec := "sweepTurned", inPlace := ["math.Float64frombits"], unfollowed := true, recurses := true, plainKeys := false, apart := false, narrowed := true }
def SweepTurnedUptoSaid : Prop := sweepTurnedUptoRow.holds Try.pinned (OpenSpec.upto sweepTurnedSpec)

/-- 'tumblelaw14.GridNames', WHERE WHAT IT READS IS OF BULK AT MOST 1048576: true; the input reads as it did. -/
def gridNamesUptoRow : OpenClaim := { program := "ytgcklheijcfneaa", sum := "083210a43826d38367f42be38b799ffcc0d681492510ae5403a7aa7fe36b7d9e", func := "tumble/tumblelaw14.GridNames", spec := "gridNames", inPlace := ["math.archFloor", "math.Float64bits", "math.Float64frombits", "math.archTrunc"], unfollowed := true, recurses := true, plainKeys := false, apart := false, narrowed := true }
def GridNamesUptoSaid : Prop := gridNamesUptoRow.holds Try.pinned (OpenSpec.upto gridNamesSpec)

/-- 'tumblelaw14.GridLies', WHERE WHAT IT READS IS OF BULK AT MOST 1048576: true; the input reads as it did. -/
def gridLiesUptoRow : OpenClaim := { program := "ytgcklheijcfneaa", sum := "083210a43826d38367f42be38b799ffcc0d681492510ae5403a7aa7fe36b7d9e", func := "tumble/tumblelaw14.GridLies", spec := "gridLies", inPlace := ["math.archFloor", "math.Float64bits", "math.Float64frombits", "math.archTrunc"], unfollowed := true, recurses := true, plainKeys := false, apart := false, narrowed := true }
def GridLiesUptoSaid : Prop := gridLiesUptoRow.holds Try.pinned (OpenSpec.upto gridLiesSpec)

/-- 'tumblelaw14.GridScaled', WHERE WHAT IT READS IS OF BULK AT MOST 1048576: true; the input reads as it did. -/
def gridScaledUptoRow : OpenClaim := { program := "ytgcklheijcfneaa", sum := "083210a43826d38367f42be38b799ffcc0d681492510ae5403a7aa7fe36b7d9e", func := "tumble/tumblelaw14.GridScaled", spec := "gridScaled", inPlace := ["math.archFloor", "math.Float64bits", "math.Float64frombits", "math.archTrunc"], unfollowed := true, recurses := true, plainKeys := false, apart := false, narrowed := true }
def GridScaledUptoSaid : Prop := gridScaledUptoRow.holds Try.pinned (OpenSpec.upto gridScaledSpec)

end Rows
end Go.Proofs.Ytgcklheijcfneaa
