/-
  No cell of these rows narrows 'for every input' (looked for: loops, veiled, ifaces, maps, wideKeys, modest, calm, conditions, laid).
  DERIVED. THE GIVEN ROWS OF THIS SEAT. 4 by the template 'for every input the law returns true; each argument reads behind the call as it read before'; 0 by the template 'total and deterministic' (their statements: YtiamgphpcjokmabTotals.lean).
  GIVEN WITH THE SEED: the statements are not yours to turn. If you find one false, say at which input.
  Laid BY PROGRAM, IN A SANDBOX (cutbox-rows.mjs): the forced cells as the released guide's own fill.sh prints them over the translation cb6eda1ac074220c… (all of the seat's roots in one cut). By AI agents, Wed Nov 11 2026. No macro, syntax, notation, axiom, sorry.
-/
import Derived.Test.YtiamgphpcjokmabChecked
import GoSem.Claim
import GoSem.ClaimJoined
import GoSem.ClaimMapViews
import Derived.JoinedTies
import Derived.KernelRfl
namespace Go.Proofs.Ytiamgphpcjokmab
/- THE CELL 'sum', in the pinned program and in every row, IS THE sha256 OF THE DUMP (.gsa) THAT YtiamgphpcjokmabProg.lean LOADS. Nothing in Lean hashes anything: it is a label: what it is worth is what the hold of that sum in a sandbox is worth. -/
noncomputable def Try.pinned : Pinned := { name := "ytiamgphpcjokmab", sum := "cb6eda1ac074220c537df662e74771ed47102c0778ee759199b4631ac93e6811", checked := Try.checked }
namespace Rows
def none {H : Type} : Left H := { results := [], args := [] }

/-- 'tumblelaw07.ShapeAsks': WHATEVER THE INPUT: true; the input reads as it did. -/
def shapeAsksSpec : ChangeSpec := { name := "shapeAsks", fn := fun _ => fun
  | [d1, d2, d3] => { results := [.lit (.bool true)], args := [d1, d2, d3] }
  | _ => none }
def shapeAsksRow : OpenClaim := { program := "ytiamgphpcjokmab", sum := "cb6eda1ac074220c537df662e74771ed47102c0778ee759199b4631ac93e6811", func := "tumble/tumblelaw07.ShapeAsks", spec := "shapeAsks", inPlace := ["math.Float64bits", "math.sqrt", "math.Float64frombits"], unfollowed := true, recurses := true, apart := false }
def ShapeAsksSaid : Prop := shapeAsksRow.holds Try.pinned (OpenSpec.ofChange shapeAsksSpec)

/-- ITS FALSE NEIGHBOUR: 'it returns false'. Refute it at one input. -/
def shapeAsksWrong : ChangeSpec := { name := "shapeAsks", fn := fun _ => fun
  | [d1, d2, d3] => { results := [.lit (.bool false)], args := [d1, d2, d3] }
  | _ => none }
def ShapeAsksWrongFalsely : Prop := shapeAsksRow.holds Try.pinned (OpenSpec.ofChange shapeAsksWrong)

/-- 'tumblelaw07.ShapeEnds': WHATEVER THE INPUT: true; the input reads as it did. -/
def shapeEndsSpec : ChangeSpec := { name := "shapeEnds", fn := fun _ => fun
  | [d] => { results := [.lit (.bool true)], args := [d] }
  | _ => none }
def shapeEndsRow : OpenClaim := { program := "ytiamgphpcjokmab", sum := "cb6eda1ac074220c537df662e74771ed47102c0778ee759199b4631ac93e6811", func := "tumble/tumblelaw07.ShapeEnds", spec := "shapeEnds", inPlace := ["math.sqrt"], unfollowed := true, recurses := true, apart := false }
def ShapeEndsSaid : Prop := shapeEndsRow.holds Try.pinned (OpenSpec.ofChange shapeEndsSpec)

/-- ITS FALSE NEIGHBOUR: 'it returns false'. Refute it at one input. -/
def shapeEndsWrong : ChangeSpec := { name := "shapeEnds", fn := fun _ => fun
  | [d] => { results := [.lit (.bool false)], args := [d] }
  | _ => none }
def ShapeEndsWrongFalsely : Prop := shapeEndsRow.holds Try.pinned (OpenSpec.ofChange shapeEndsWrong)

/-- 'tumblelaw07.ShapeStays': WHATEVER THE INPUT: true; the input reads as it did. -/
def shapeStaysSpec : ChangeSpec := { name := "shapeStays", fn := fun _ => fun
  | [d1, d2, d3] => { results := [.lit (.bool true)], args := [d1, d2, d3] }
  | _ => none }
def shapeStaysRow : OpenClaim := { program := "ytiamgphpcjokmab", sum := "cb6eda1ac074220c537df662e74771ed47102c0778ee759199b4631ac93e6811", func := "tumble/tumblelaw07.ShapeStays", spec := "shapeStays", inPlace := ["math.sqrt"], unfollowed := true, recurses := true, apart := false }
def ShapeStaysSaid : Prop := shapeStaysRow.holds Try.pinned (OpenSpec.ofChange shapeStaysSpec)

/-- ITS FALSE NEIGHBOUR: 'it returns false'. Refute it at one input. -/
def shapeStaysWrong : ChangeSpec := { name := "shapeStays", fn := fun _ => fun
  | [d1, d2, d3] => { results := [.lit (.bool false)], args := [d1, d2, d3] }
  | _ => none }
def ShapeStaysWrongFalsely : Prop := shapeStaysRow.holds Try.pinned (OpenSpec.ofChange shapeStaysWrong)

/-- 'tumblelaw07.ShapeTwice': WHATEVER THE INPUT: true; the input reads as it did. -/
def shapeTwiceSpec : ChangeSpec := { name := "shapeTwice", fn := fun _ => fun
  | [d1, d2, d3, d4] => { results := [.lit (.bool true)], args := [d1, d2, d3, d4] }
  | _ => none }
def shapeTwiceRow : OpenClaim := { program := "ytiamgphpcjokmab", sum := "cb6eda1ac074220c537df662e74771ed47102c0778ee759199b4631ac93e6811", func := "tumble/tumblelaw07.ShapeTwice", spec := "shapeTwice", inPlace := ["math.sqrt", "math.Float64bits", "math.Float64frombits"], unfollowed := true, recurses := true, apart := false }
def ShapeTwiceSaid : Prop := shapeTwiceRow.holds Try.pinned (OpenSpec.ofChange shapeTwiceSpec)

/-- ITS FALSE NEIGHBOUR: 'it returns false'. Refute it at one input. -/
def shapeTwiceWrong : ChangeSpec := { name := "shapeTwice", fn := fun _ => fun
  | [d1, d2, d3, d4] => { results := [.lit (.bool false)], args := [d1, d2, d3, d4] }
  | _ => none }
def ShapeTwiceWrongFalsely : Prop := shapeTwiceRow.holds Try.pinned (OpenSpec.ofChange shapeTwiceWrong)

/- THE SECOND FORM. 'bulk': how many values and letters a reading holds, each counted each time it is reached (what is shared counts as often as it is met; a slice's spare places count too). A statement '..UptoSaid' is the law's where the arguments, and the package variables that the reading takes, are together of bulk at most 1048576: NARROWER than '..Said'. Prove '..Said' where nothing that the law and all that it calls make is longer than what came in: it says more and counts as full. Else prove '..UptoSaid'. A law counts once. -/
mutual
def uptoBulk {H : Type} : DataW H → Nat
  | .lit (.string bytes) => bytes.length + 1
  | .lit _ => 1
  | .nil => 1
  | .ptr d => uptoBulk d + 1
  | .slice elems spare => uptoBulkAll elems + uptoBulkAll spare + 1
  | .agg parts => uptoBulkAll parts + 1
  | .iface _ d => uptoBulk d + 1
  | .map entries => uptoBulkEntries entries + 1
  | .held _ => 1
def uptoBulkAll {H : Type} : List (DataW H) → Nat
  | [] => 0
  | d :: r => uptoBulk d + uptoBulkAll r
def uptoBulkEntries {H : Type} : List (Lit × DataW H) → Nat
  | [] => 0
  | x :: r => uptoBulkEntry x + uptoBulkEntries r
def uptoBulkEntry {H : Type} : Lit × DataW H → Nat
  | (.string bytes, d) => bytes.length + uptoBulk d + 1
  | (_, d) => uptoBulk d + 1
 end
def uptoSmall : (H : Type) → List (DataW H) → Bool := fun _ ds => decide (uptoBulkAll ds ≤ 1048576)
def OpenSpec.upto (s : _root_.Go.ChangeSpec) : _root_.Go.OpenSpec := { _root_.Go.OpenSpec.ofChange s with cond := some uptoSmall }

/-- 'tumblelaw07.ShapeAsks', WHERE WHAT IT READS IS OF BULK AT MOST 1048576: true; the input reads as it did. -/
def shapeAsksUptoRow : OpenClaim := { program := "ytiamgphpcjokmab", sum := "cb6eda1ac074220c537df662e74771ed47102c0778ee759199b4631ac93e6811", func := "tumble/tumblelaw07.ShapeAsks", spec := "shapeAsks", inPlace := ["math.Float64bits", "math.sqrt", "math.Float64frombits"], unfollowed := true, recurses := true, apart := false, narrowed := true }
def ShapeAsksUptoSaid : Prop := shapeAsksUptoRow.holds Try.pinned (OpenSpec.upto shapeAsksSpec)

/-- 'tumblelaw07.ShapeEnds', WHERE WHAT IT READS IS OF BULK AT MOST 1048576: true; the input reads as it did. -/
def shapeEndsUptoRow : OpenClaim := { program := "ytiamgphpcjokmab", sum := "cb6eda1ac074220c537df662e74771ed47102c0778ee759199b4631ac93e6811", func := "tumble/tumblelaw07.ShapeEnds", spec := "shapeEnds", inPlace := ["math.sqrt"], unfollowed := true, recurses := true, apart := false, narrowed := true }
def ShapeEndsUptoSaid : Prop := shapeEndsUptoRow.holds Try.pinned (OpenSpec.upto shapeEndsSpec)

/-- 'tumblelaw07.ShapeStays', WHERE WHAT IT READS IS OF BULK AT MOST 1048576: true; the input reads as it did. -/
def shapeStaysUptoRow : OpenClaim := { program := "ytiamgphpcjokmab", sum := "cb6eda1ac074220c537df662e74771ed47102c0778ee759199b4631ac93e6811", func := "tumble/tumblelaw07.ShapeStays", spec := "shapeStays", inPlace := ["math.sqrt"], unfollowed := true, recurses := true, apart := false, narrowed := true }
def ShapeStaysUptoSaid : Prop := shapeStaysUptoRow.holds Try.pinned (OpenSpec.upto shapeStaysSpec)

/-- 'tumblelaw07.ShapeTwice', WHERE WHAT IT READS IS OF BULK AT MOST 1048576: true; the input reads as it did. -/
def shapeTwiceUptoRow : OpenClaim := { program := "ytiamgphpcjokmab", sum := "cb6eda1ac074220c537df662e74771ed47102c0778ee759199b4631ac93e6811", func := "tumble/tumblelaw07.ShapeTwice", spec := "shapeTwice", inPlace := ["math.sqrt", "math.Float64bits", "math.Float64frombits"], unfollowed := true, recurses := true, apart := false, narrowed := true }
def ShapeTwiceUptoSaid : Prop := shapeTwiceUptoRow.holds Try.pinned (OpenSpec.upto shapeTwiceSpec)

end Rows
end Go.Proofs.Ytiamgphpcjokmab
