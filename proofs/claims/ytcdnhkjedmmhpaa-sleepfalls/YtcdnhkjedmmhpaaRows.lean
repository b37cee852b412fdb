/-
  No cell of these rows narrows 'for every input' (looked for: loops, veiled, ifaces, maps, wideKeys, modest, calm, conditions, laid).
  DERIVED. THE GIVEN ROWS OF THIS SEAT. 4 by the template 'for every input the law returns true; each argument reads behind the call as it read before'; 0 by the template 'total and deterministic' (their statements: YtcdnhkjedmmhpaaTotals.lean).
  GIVEN WITH THE SEED: the statements are not yours to turn. If you find one false, say at which input.
  Laid BY PROGRAM, IN A SANDBOX (cutbox-rows.mjs): the forced cells as the released guide's own fill.sh prints them over the translation 71240407742f5079… (all of the seat's roots in one cut). By AI agents, Wed Nov 11 2026. No macro, syntax, notation, axiom, sorry.
-/
import Derived.Test.YtcdnhkjedmmhpaaChecked
import GoSem.Claim
import GoSem.ClaimJoined
import GoSem.ClaimMapViews
import Derived.JoinedTies
import Derived.KernelRfl
namespace Go.Proofs.Ytcdnhkjedmmhpaa
/- THE CELL 'sum', in the pinned program and in every row, IS THE sha256 OF THE DUMP (.gsa) THAT YtcdnhkjedmmhpaaProg.lean LOADS. Nothing in Lean hashes anything: it is a label: what it is worth is what the hold of that sum in a sandbox is worth. -/
noncomputable def Try.pinned : Pinned := { name := "ytcdnhkjedmmhpaa", sum := "71240407742f5079695967c7a6a416ff1cd4aef71de7237c5aa2afdfeb8804e7", checked := Try.checked }
namespace Rows
def none {H : Type} : Left H := { results := [], args := [] }

/-- 'tumblelaw22.IslandNames': WHATEVER THE INPUT: true; the input reads as it did. -/
def islandNamesSpec : ChangeSpec := { name := "islandNames", fn := fun _ => fun
  | [] => { results := [.lit (.bool true)], args := [] }
  | _ => none }
def islandNamesRow : OpenClaim := { program := "ytcdnhkjedmmhpaa", sum := "71240407742f5079695967c7a6a416ff1cd4aef71de7237c5aa2afdfeb8804e7", func := "tumble/tumblelaw22.IslandNames", spec := "islandNames", inPlace := ["math.Float64frombits"], unfollowed := true, recurses := true, apart := false }
def IslandNamesSaid : Prop := islandNamesRow.holds Try.pinned (OpenSpec.ofChange islandNamesSpec)

/-- ITS FALSE NEIGHBOUR: 'it returns false'. Refute it at one input. -/
def islandNamesWrong : ChangeSpec := { name := "islandNames", fn := fun _ => fun
  | [] => { results := [.lit (.bool false)], args := [] }
  | _ => none }
def IslandNamesWrongFalsely : Prop := islandNamesRow.holds Try.pinned (OpenSpec.ofChange islandNamesWrong)

/-- 'tumblelaw22.IslandJoins': WHATEVER THE INPUT: true; the input reads as it did. -/
def islandJoinsSpec : ChangeSpec := { name := "islandJoins", fn := fun _ => fun
  | [d1, d2] => { results := [.lit (.bool true)], args := [d1, d2] }
  | _ => none }
def islandJoinsRow : OpenClaim := { program := "ytcdnhkjedmmhpaa", sum := "71240407742f5079695967c7a6a416ff1cd4aef71de7237c5aa2afdfeb8804e7", func := "tumble/tumblelaw22.IslandJoins", spec := "islandJoins", unfollowed := true, recurses := true, apart := false }
def IslandJoinsSaid : Prop := islandJoinsRow.holds Try.pinned (OpenSpec.ofChange islandJoinsSpec)

/-- ITS FALSE NEIGHBOUR: 'it returns false'. Refute it at one input. -/
def islandJoinsWrong : ChangeSpec := { name := "islandJoins", fn := fun _ => fun
  | [d1, d2] => { results := [.lit (.bool false)], args := [d1, d2] }
  | _ => none }
def IslandJoinsWrongFalsely : Prop := islandJoinsRow.holds Try.pinned (OpenSpec.ofChange islandJoinsWrong)

/-- 'tumblelaw23.SleepNames': WHATEVER THE INPUT: true; the input reads as it did. -/
def sleepNamesSpec : ChangeSpec := { name := "sleepNames", fn := fun _ => fun
  | [] => { results := [.lit (.bool true)], args := [] }
  | _ => none }
def sleepNamesRow : OpenClaim := { program := "ytcdnhkjedmmhpaa", sum := "71240407742f5079695967c7a6a416ff1cd4aef71de7237c5aa2afdfeb8804e7", func := "tumble/tumblelaw23.SleepNames", spec := "sleepNames", inPlace := ["math.sqrt"], unfollowed := true, recurses := true, apart := false }
def SleepNamesSaid : Prop := sleepNamesRow.holds Try.pinned (OpenSpec.ofChange sleepNamesSpec)

/-- ITS FALSE NEIGHBOUR: 'it returns false'. Refute it at one input. -/
def sleepNamesWrong : ChangeSpec := { name := "sleepNames", fn := fun _ => fun
  | [] => { results := [.lit (.bool false)], args := [] }
  | _ => none }
def SleepNamesWrongFalsely : Prop := sleepNamesRow.holds Try.pinned (OpenSpec.ofChange sleepNamesWrong)

/-- 'tumblelaw23.SleepFalls': WHATEVER THE INPUT: true; the input reads as it did. -/
def sleepFallsSpec : ChangeSpec := { name := "sleepFalls", fn := fun _ => fun
  | [d1, d2, d3] => { results := [.lit (.bool true)], args := [d1, d2, d3] }
  | _ => none }
def sleepFallsRow : OpenClaim := { program := "ytcdnhkjedmmhpaa", sum := "71240407742f5079695967c7a6a416ff1cd4aef71de7237c5aa2afdfeb8804e7", func := "tumble/tumblelaw23.SleepFalls", spec := "sleepFalls", inPlace := ["math.sqrt", "math.Float64bits"], unfollowed := true, recurses := true, apart := false }
def SleepFallsSaid : Prop := sleepFallsRow.holds Try.pinned (OpenSpec.ofChange sleepFallsSpec)

/-- ITS FALSE NEIGHBOUR: 'it returns false'. Refute it at one input. -/
def sleepFallsWrong : ChangeSpec := { name := "sleepFalls", fn := fun _ => fun
  | [d1, d2, d3] => { results := [.lit (.bool false)], args := [d1, d2, d3] }
  | _ => none }
def SleepFallsWrongFalsely : Prop := sleepFallsRow.holds Try.pinned (OpenSpec.ofChange sleepFallsWrong)

/- THE SECOND FORM. 'bulk': how many values and letters a reading holds, each counted each time it is reached (what is shared counts as often as it is met; a slice's spare places count too). A statement '..UptoSaid' is the law's where the arguments, and the package variables that the reading takes, are together of bulk at most 1048576: NARROWER than '..Said'. Prove '..Said' where nothing that the law and all that it calls make is longer than what came in: it says more and counts as full. Else prove '..UptoSaid'. A law counts once. -/
mutual
def uptoBulk {H : Type} : DataW H → Nat
  | .lit (.string bytes) => bytes.length + 1
  | .lit _ => 1
  | .nil => 1
  | .ptr d => uptoBulk d + 1
  | .slice elems spare => uptoBulkAll elems + uptoBulkAll spare + 1
  | .agg parts => uptoBulkAll parts + 1
  | .iface _ d => uptoBulk d + 1
  | .map entries => uptoBulkEntries entries + 1
  | .held _ => 1
def uptoBulkAll {H : Type} : List (DataW H) → Nat
  | [] => 0
  | d :: r => uptoBulk d + uptoBulkAll r
def uptoBulkEntries {H : Type} : List (Lit × DataW H) → Nat
  | [] => 0
  | x :: r => uptoBulkEntry x + uptoBulkEntries r
def uptoBulkEntry {H : Type} : Lit × DataW H → Nat
  | (.string bytes, d) => bytes.length + uptoBulk d + 1
  | (_, d) => uptoBulk d + 1
 end
def uptoSmall : (H : Type) → List (DataW H) → Bool := fun _ ds => decide (uptoBulkAll ds ≤ 1048576)
def OpenSpec.upto (s : _root_.Go.ChangeSpec) : _root_.Go.OpenSpec := { _root_.Go.OpenSpec.ofChange s with cond := some uptoSmall }

/-- 'tumblelaw22.IslandNames', WHERE WHAT IT READS IS OF BULK AT MOST 1048576: true; the input reads as it did. -/
def islandNamesUptoRow : OpenClaim := { program := "ytcdnhkjedmmhpaa", sum := "71240407742f5079695967c7a6a416ff1cd4aef71de7237c5aa2afdfeb8804e7", func := "tumble/tumblelaw22.IslandNames", spec := "islandNames", inPlace := ["math.Float64frombits"], unfollowed := true, recurses := true, apart := false, narrowed := true }
def IslandNamesUptoSaid : Prop := islandNamesUptoRow.holds Try.pinned (OpenSpec.upto islandNamesSpec)

/-- 'tumblelaw22.IslandJoins', WHERE WHAT IT READS IS OF BULK AT MOST 1048576: true; the input reads as it did. -/
def islandJoinsUptoRow : OpenClaim := { program := "ytcdnhkjedmmhpaa", sum := "71240407742f5079695967c7a6a416ff1cd4aef71de7237c5aa2afdfeb8804e7", func := "tumble/tumblelaw22.IslandJoins", spec := "islandJoins", unfollowed := true, recurses := true, apart := false, narrowed := true }
def IslandJoinsUptoSaid : Prop := islandJoinsUptoRow.holds Try.pinned (OpenSpec.upto islandJoinsSpec)

/-- 'tumblelaw23.SleepNames', WHERE WHAT IT READS IS OF BULK AT MOST 1048576: true; the input reads as it did. -/
def sleepNamesUptoRow : OpenClaim := { program := "ytcdnhkjedmmhpaa", sum := "71240407742f5079695967c7a6a416ff1cd4aef71de7237c5aa2afdfeb8804e7", func := "tumble/tumblelaw23.SleepNames", spec := "sleepNames", inPlace := ["math.sqrt"], unfollowed := true, recurses := true, apart := false, narrowed := true }
def SleepNamesUptoSaid : Prop := sleepNamesUptoRow.holds Try.pinned (OpenSpec.upto sleepNamesSpec)

/-- 'tumblelaw23.SleepFalls', WHERE WHAT IT READS IS OF BULK AT MOST 1048576: true; the input reads as it did. -/
def sleepFallsUptoRow : OpenClaim := { program := "ytcdnhkjedmmhpaa", sum := "71240407742f5079695967c7a6a416ff1cd4aef71de7237c5aa2afdfeb8804e7", func := "tumble/tumblelaw23.SleepFalls", spec := "sleepFalls", inPlace := ["math.sqrt", "math.Float64bits"], unfollowed := true, recurses := true, apart := false, narrowed := true }
def SleepFallsUptoSaid : Prop := sleepFallsUptoRow.holds Try.pinned (OpenSpec.upto sleepFallsSpec)

end Rows
end Go.Proofs.Ytcdnhkjedmmhpaa
