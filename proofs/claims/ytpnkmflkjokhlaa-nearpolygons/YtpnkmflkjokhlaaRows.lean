/-
  No cell of these rows narrows 'for every input' (looked for: loops, veiled, ifaces, maps, wideKeys, modest, calm, conditions, laid).
  DERIVED. THE GIVEN ROWS OF THIS SEAT. 5 by the template 'for every input the law returns true; each argument reads behind the call as it read before'; 0 by the template 'total and deterministic' (their statements: YtpnkmflkjokhlaaTotals.lean).
  GIVEN WITH THE SEED: the statements are not yours to turn. If you find one false, say at which input.
  Laid BY PROGRAM, IN A SANDBOX (cutbox-rows.mjs): the forced cells as the released guide's own fill.sh prints them over the translation 47f0084f20687013… (all of the seat's roots in one cut). By AI agents, Wed Nov 11 2026. No macro, syntax, notation, axiom, sorry.
-/
import Derived.Test.YtpnkmflkjokhlaaChecked
import GoSem.Claim
import GoSem.ClaimJoined
import GoSem.ClaimMapViews
import Derived.JoinedTies
import Derived.KernelRfl
namespace Go.Proofs.Ytpnkmflkjokhlaa
/- THE CELL 'sum', in the pinned program and in every row, IS THE sha256 OF THE DUMP (.gsa) THAT YtpnkmflkjokhlaaProg.lean LOADS. Nothing in Lean hashes anything: it is a label: what it is worth is what the hold of that sum in a sandbox is worth. -/
noncomputable def Try.pinned : Pinned := { name := "ytpnkmflkjokhlaa", sum := "47f0084f20687013ca39238fee857c8f7912dc9bde68ed01bd6713d2e209c98e", checked := Try.checked }
namespace Rows
def none {H : Type} : Left H := { results := [], args := [] }

/-- 'tumblelaw10.NearSegments': WHATEVER THE INPUT: true; the input reads as it did. -/
def nearSegmentsSpec : ChangeSpec := { name := "nearSegments", fn := fun _ => fun
  | [d] => { results := [.lit (.bool true)], args := [d] }
  | _ => none }
def nearSegmentsRow : OpenClaim := { program := "ytpnkmflkjokhlaa", sum := "47f0084f20687013ca39238fee857c8f7912dc9bde68ed01bd6713d2e209c98e", func := "tumble/tumblelaw10.NearSegments", spec := "nearSegments", inPlace := ["math.Float64bits", "math.sqrt"], unfollowed := true, recurses := true, apart := false }
def NearSegmentsSaid : Prop := nearSegmentsRow.holds Try.pinned (OpenSpec.ofChange nearSegmentsSpec)

/-- ITS FALSE NEIGHBOUR: 'it returns false'. Refute it at one input. -/
def nearSegmentsWrong : ChangeSpec := { name := "nearSegments", fn := fun _ => fun
  | [d] => { results := [.lit (.bool false)], args := [d] }
  | _ => none }
def NearSegmentsWrongFalsely : Prop := nearSegmentsRow.holds Try.pinned (OpenSpec.ofChange nearSegmentsWrong)

/-- 'tumblelaw10.NearPolygons': WHATEVER THE INPUT: true; the input reads as it did. -/
def nearPolygonsSpec : ChangeSpec := { name := "nearPolygons", fn := fun _ => fun
  | [d1, d2] => { results := [.lit (.bool true)], args := [d1, d2] }
  | _ => none }
def nearPolygonsRow : OpenClaim := { program := "ytpnkmflkjokhlaa", sum := "47f0084f20687013ca39238fee857c8f7912dc9bde68ed01bd6713d2e209c98e", func := "tumble/tumblelaw10.NearPolygons", spec := "nearPolygons", inPlace := ["math.sqrt", "math.Float64frombits", "math.Float64bits"], unfollowed := true, recurses := true, apart := false }
def NearPolygonsSaid : Prop := nearPolygonsRow.holds Try.pinned (OpenSpec.ofChange nearPolygonsSpec)

/-- ITS FALSE NEIGHBOUR: 'it returns false'. Refute it at one input. -/
def nearPolygonsWrong : ChangeSpec := { name := "nearPolygons", fn := fun _ => fun
  | [d1, d2] => { results := [.lit (.bool false)], args := [d1, d2] }
  | _ => none }
def NearPolygonsWrongFalsely : Prop := nearPolygonsRow.holds Try.pinned (OpenSpec.ofChange nearPolygonsWrong)

/-- 'tumblelaw10.NearNames': WHATEVER THE INPUT: true; the input reads as it did. -/
def nearNamesSpec : ChangeSpec := { name := "nearNames", fn := fun _ => fun
  | [] => { results := [.lit (.bool true)], args := [] }
  | _ => none }
def nearNamesRow : OpenClaim := { program := "ytpnkmflkjokhlaa", sum := "47f0084f20687013ca39238fee857c8f7912dc9bde68ed01bd6713d2e209c98e", func := "tumble/tumblelaw10.NearNames", spec := "nearNames", inPlace := ["math.sqrt", "math.Float64frombits"], unfollowed := true, recurses := true, apart := false }
def NearNamesSaid : Prop := nearNamesRow.holds Try.pinned (OpenSpec.ofChange nearNamesSpec)

/-- ITS FALSE NEIGHBOUR: 'it returns false'. Refute it at one input. -/
def nearNamesWrong : ChangeSpec := { name := "nearNames", fn := fun _ => fun
  | [] => { results := [.lit (.bool false)], args := [] }
  | _ => none }
def NearNamesWrongFalsely : Prop := nearNamesRow.holds Try.pinned (OpenSpec.ofChange nearNamesWrong)

/-- 'tumblelaw10.NearBoth': WHATEVER THE INPUT: true; the input reads as it did. -/
def nearBothSpec : ChangeSpec := { name := "nearBoth", fn := fun _ => fun
  | [d1, d2] => { results := [.lit (.bool true)], args := [d1, d2] }
  | _ => none }
def nearBothRow : OpenClaim := { program := "ytpnkmflkjokhlaa", sum := "47f0084f20687013ca39238fee857c8f7912dc9bde68ed01bd6713d2e209c98e", func := "tumble/tumblelaw10.NearBoth", spec := "nearBoth", inPlace := ["math.sqrt", "math.Float64frombits", "math.archMax", "math.Float64bits"], unfollowed := true, recurses := true, apart := false }
def NearBothSaid : Prop := nearBothRow.holds Try.pinned (OpenSpec.ofChange nearBothSpec)

/-- ITS FALSE NEIGHBOUR: 'it returns false'. Refute it at one input. -/
def nearBothWrong : ChangeSpec := { name := "nearBoth", fn := fun _ => fun
  | [d1, d2] => { results := [.lit (.bool false)], args := [d1, d2] }
  | _ => none }
def NearBothWrongFalsely : Prop := nearBothRow.holds Try.pinned (OpenSpec.ofChange nearBothWrong)

/-- 'tumblelaw10.NearTwice': WHATEVER THE INPUT: true; the input reads as it did. -/
def nearTwiceSpec : ChangeSpec := { name := "nearTwice", fn := fun _ => fun
  | [d1, d2, d3] => { results := [.lit (.bool true)], args := [d1, d2, d3] }
  | _ => none }
def nearTwiceRow : OpenClaim := { program := "ytpnkmflkjokhlaa", sum := "47f0084f20687013ca39238fee857c8f7912dc9bde68ed01bd6713d2e209c98e", func := "tumble/tumblelaw10.NearTwice", spec := "nearTwice", inPlace := ["math.sqrt", "math.Float64frombits", "math.Float64bits"], unfollowed := true, recurses := true, apart := false }
def NearTwiceSaid : Prop := nearTwiceRow.holds Try.pinned (OpenSpec.ofChange nearTwiceSpec)

/-- ITS FALSE NEIGHBOUR: 'it returns false'. Refute it at one input. -/
def nearTwiceWrong : ChangeSpec := { name := "nearTwice", fn := fun _ => fun
  | [d1, d2, d3] => { results := [.lit (.bool false)], args := [d1, d2, d3] }
  | _ => none }
def NearTwiceWrongFalsely : Prop := nearTwiceRow.holds Try.pinned (OpenSpec.ofChange nearTwiceWrong)

/- THE SECOND FORM. 'bulk': how many values and letters a reading holds, each counted each time it is reached (what is shared counts as often as it is met; a slice's spare places count too). A statement '..UptoSaid' is the law's where the arguments, and the package variables that the reading takes, are together of bulk at most 1048576: NARROWER than '..Said'. Prove '..Said' where nothing that the law and all that it calls make is longer than what came in: it says more and counts as full. Else prove '..UptoSaid'. A law counts once. -/
mutual
def uptoBulk {H : Type} : DataW H → Nat
  | .lit (.string bytes) => bytes.length + 1
  | .lit _ => 1
  | .nil => 1
  | .ptr d => uptoBulk d + 1
  | .slice elems spare => uptoBulkAll elems + uptoBulkAll spare + 1
  | .agg parts => uptoBulkAll parts + 1
  | .iface _ d => uptoBulk d + 1
  | .map entries => uptoBulkEntries entries + 1
  | .held _ => 1
def uptoBulkAll {H : Type} : List (DataW H) → Nat
  | [] => 0
  | d :: r => uptoBulk d + uptoBulkAll r
def uptoBulkEntries {H : Type} : List (Lit × DataW H) → Nat
  | [] => 0
  | x :: r => uptoBulkEntry x + uptoBulkEntries r
def uptoBulkEntry {H : Type} : Lit × DataW H → Nat
  | (.string bytes, d) => bytes.length + uptoBulk d + 1
  | (_, d) => uptoBulk d + 1
 end
def uptoSmall : (H : Type) → List (DataW H) → Bool := fun _ ds => decide (uptoBulkAll ds ≤ 1048576)
def OpenSpec.upto (s : _root_.Go.ChangeSpec) : _root_.Go.OpenSpec := { _root_.Go.OpenSpec.ofChange s with cond := some uptoSmall }

/-- 'tumblelaw10.NearSegments', WHERE WHAT IT READS IS OF BULK AT MOST 1048576: true; the input reads as it did. -/
def nearSegmentsUptoRow : OpenClaim := { program := "ytpnkmflkjokhlaa", sum := "47f0084f20687013ca39238fee857c8f7912dc9bde68ed01bd6713d2e209c98e", func := "tumble/tumblelaw10.NearSegments", spec := "nearSegments", inPlace := ["math.Float64bits", "math.sqrt"], unfollowed := true, recurses := true, apart := false, narrowed := true }
def NearSegmentsUptoSaid : Prop := nearSegmentsUptoRow.holds Try.pinned (OpenSpec.upto nearSegmentsSpec)

/-- 'tumblelaw10.NearPolygons', WHERE WHAT IT READS IS OF BULK AT MOST 1048576: true; the input reads as it did. -/
def nearPolygonsUptoRow : OpenClaim := { program := "ytpnkmflkjokhlaa", sum := "47f0084f20687013ca39238fee857c8f7912dc9bde68ed01bd6713d2e209c98e", func := "tumble/tumblelaw10.NearPolygons", spec := "nearPolygons", inPlace := ["math.sqrt", "math.Float64frombits", "math.Float64bits"], unfollowed := true, recurses := true, apart := false, narrowed := true }
def NearPolygonsUptoSaid : Prop := nearPolygonsUptoRow.holds Try.pinned (OpenSpec.upto nearPolygonsSpec)

/-- 'tumblelaw10.NearNames', WHERE WHAT IT READS IS OF BULK AT MOST 1048576: true; the input reads as it did. -/
def nearNamesUptoRow : OpenClaim := { program := "ytpnkmflkjokhlaa", sum := "47f0084f20687013ca39238fee857c8f7912dc9bde68ed01bd6713d2e209c98e", func := "tumble/tumblelaw10.NearNames", spec := "nearNames", inPlace := ["math.sqrt", "math.Float64frombits"], unfollowed := true, recurses := true, apart := false, narrowed := true }
def NearNamesUptoSaid : Prop := nearNamesUptoRow.holds Try.pinned (OpenSpec.upto nearNamesSpec)

/-- 'tumblelaw10.NearBoth', WHERE WHAT IT READS IS OF BULK AT MOST 1048576: true; the input reads as it did. -/
def nearBothUptoRow : OpenClaim := { program := "ytpnkmflkjokhlaa", sum := "47f0084f20687013ca39238fee857c8f7912dc9bde68ed01bd6713d2e209c98e", func := "tumble/tumblelaw10.NearBoth", spec := "nearBoth", inPlace := ["math.sqrt", "math.Float64frombits", "math.archMax", "math.Float64bits"], unfollowed := true, recurses := true, apart := false, narrowed := true }
def NearBothUptoSaid : Prop := nearBothUptoRow.holds Try.pinned (OpenSpec.upto nearBothSpec)

/-- 'tumblelaw10.NearTwice', WHERE WHAT IT READS IS OF BULK AT MOST 1048576: true; the input reads as it did. -/
def nearTwiceUptoRow : OpenClaim := { program := "ytpnkmflkjokhlaa", sum := "47f0084f20687013ca39238fee857c8f7912dc9bde68ed01bd6713d2e209c98e", func := "tumble/tumblelaw10.NearTwice", spec := "nearTwice", inPlace := ["math.sqrt", "math.Float64frombits", "math.Float64bits"], unfollowed := true, recurses := true, apart := false, narrowed := true }
def NearTwiceUptoSaid : Prop := nearTwiceUptoRow.holds Try.pinned (OpenSpec.upto nearTwiceSpec)

end Rows
end Go.Proofs.Ytpnkmflkjokhlaa
