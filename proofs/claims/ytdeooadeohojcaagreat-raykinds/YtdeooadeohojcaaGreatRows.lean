/-
  No cell of these rows narrows 'for every input' (looked for: loops, veiled, ifaces, maps, wideKeys, modest, calm, conditions, laid).
  DERIVED. THE GIVEN ROWS OF THIS SEAT. 2 by the template 'for every input the law returns true; each argument reads behind the call as it read before'; 0 by the template 'total and deterministic' (their statements: YtdeooadeohojcaaGreatTotals.lean).
  GIVEN WITH THE SEED: the statements are not yours to turn. If you find one false, say at which input.
  Laid BY PROGRAM, IN A SANDBOX (cutbox-rows.mjs): the forced cells as the released guide's own fill.sh prints them over the translation d8cde4e9cf150763… (all of the seat's roots in one cut). By AI agents, Wed Nov 11 2026. No macro, syntax, notation, axiom, sorry.
-/
import Derived.Test.YtdeooadeohojcaaGreatChecked
import GoSem.Claim
import GoSem.ClaimJoined
import GoSem.ClaimMapViews
import Derived.JoinedTies
import Derived.KernelRfl
namespace Go.Proofs.YtdeooadeohojcaaGreat
/- THE CELL 'sum', in the pinned program and in every row, IS THE sha256 OF THE DUMP (.gsa) THAT YtdeooadeohojcaaGreatProg.lean LOADS. Nothing in Lean hashes anything: it is a label: what it is worth is what the hold of that sum in a sandbox is worth. -/
noncomputable def Tryz.pinned : Pinned := { name := "ytdeooadeohojcaagreat", sum := "d8cde4e9cf1507634833d6587ab56d9b47ca01ba2916eb822ef9b308e6d0a7ab", checked := Tryz.checked }
namespace Rows
def none {H : Type} : Left H := { results := [], args := [] }

/-- 'tumblelaw12.RayKinds': WHATEVER THE INPUT: true; the input reads as it did. -/
def rayKindsSpec : ChangeSpec := { name := "rayKinds", fn := fun _ => fun
  | [d1, d2, d3, d4, d5, d6] => { results := [.lit (.bool true)], args := [d1, d2, d3, d4, d5, d6] }
  | _ => none }
def rayKindsRow : OpenClaim := { program := "ytdeooadeohojcaagreat", sum := "d8cde4e9cf1507634833d6587ab56d9b47ca01ba2916eb822ef9b308e6d0a7ab", func := "tumble/tumblelaw12.RayKinds", spec := "rayKinds", inPlace := ["math.sqrt", "math.Float64frombits", "math.Float64bits"], unfollowed := true, recurses := true, apart := false }
def RayKindsSaid : Prop := rayKindsRow.holds Tryz.pinned (OpenSpec.ofChange rayKindsSpec)

/-- ITS FALSE NEIGHBOUR: 'it returns false'. Refute it at one input. -/
def rayKindsWrong : ChangeSpec := { name := "rayKinds", fn := fun _ => fun
  | [d1, d2, d3, d4, d5, d6] => { results := [.lit (.bool false)], args := [d1, d2, d3, d4, d5, d6] }
  | _ => none }
def RayKindsWrongFalsely : Prop := rayKindsRow.holds Tryz.pinned (OpenSpec.ofChange rayKindsWrong)

/-- 'tumblelaw12.RayShape': WHATEVER THE INPUT: true; the input reads as it did. -/
def rayShapeSpec : ChangeSpec := { name := "rayShape", fn := fun _ => fun
  | [d1, d2, d3] => { results := [.lit (.bool true)], args := [d1, d2, d3] }
  | _ => none }
def rayShapeRow : OpenClaim := { program := "ytdeooadeohojcaagreat", sum := "d8cde4e9cf1507634833d6587ab56d9b47ca01ba2916eb822ef9b308e6d0a7ab", func := "tumble/tumblelaw12.RayShape", spec := "rayShape", inPlace := ["math.sqrt", "math.Float64frombits", "math.Float64bits"], unfollowed := true, recurses := true, apart := false }
def RayShapeSaid : Prop := rayShapeRow.holds Tryz.pinned (OpenSpec.ofChange rayShapeSpec)

/-- ITS FALSE NEIGHBOUR: 'it returns false'. Refute it at one input. -/
def rayShapeWrong : ChangeSpec := { name := "rayShape", fn := fun _ => fun
  | [d1, d2, d3] => { results := [.lit (.bool false)], args := [d1, d2, d3] }
  | _ => none }
def RayShapeWrongFalsely : Prop := rayShapeRow.holds Tryz.pinned (OpenSpec.ofChange rayShapeWrong)

/- THE SECOND FORM. 'bulk': how many values and letters a reading holds, each counted each time it is reached (what is shared counts as often as it is met; a slice's spare places count too). A statement '..UptoSaid' is the law's where the arguments, and the package variables that the reading takes, are together of bulk at most 1048576: NARROWER than '..Said'. Prove '..Said' where nothing that the law and all that it calls make is longer than what came in: it says more and counts as full. Else prove '..UptoSaid'. A law counts once. -/
mutual
def uptoBulk {H : Type} : DataW H → Nat
  | .lit (.string bytes) => bytes.length + 1
  | .lit _ => 1
  | .nil => 1
  | .ptr d => uptoBulk d + 1
  | .slice elems spare => uptoBulkAll elems + uptoBulkAll spare + 1
  | .agg parts => uptoBulkAll parts + 1
  | .iface _ d => uptoBulk d + 1
  | .map entries => uptoBulkEntries entries + 1
  | .held _ => 1
def uptoBulkAll {H : Type} : List (DataW H) → Nat
  | [] => 0
  | d :: r => uptoBulk d + uptoBulkAll r
def uptoBulkEntries {H : Type} : List (Lit × DataW H) → Nat
  | [] => 0
  | x :: r => uptoBulkEntry x + uptoBulkEntries r
def uptoBulkEntry {H : Type} : Lit × DataW H → Nat
  | (.string bytes, d) => bytes.length + uptoBulk d + 1
  | (_, d) => uptoBulk d + 1
 end
def uptoSmall : (H : Type) → List (DataW H) → Bool := fun _ ds => decide (uptoBulkAll ds ≤ 1048576)
def OpenSpec.upto (s : _root_.Go.ChangeSpec) : _root_.Go.OpenSpec := { _root_.Go.OpenSpec.ofChange s with cond := some uptoSmall }

/-- 'tumblelaw12.RayKinds', WHERE WHAT IT READS IS OF BULK AT MOST 1048576: true; the input reads as it did. -/
def rayKindsUptoRow : OpenClaim := { program := "ytdeooadeohojcaagreat", sum := "d8cde4e9cf1507634833d6587ab56d9b47ca01ba2916eb822ef9b308e6d0a7ab", func := "tumble/tumblelaw12.RayKinds", spec := "rayKinds", inPlace := ["math.sqrt", "math.Float64frombits", "math.Float64bits"], unfollowed := true, recurses := true, apart := false, narrowed := true }
def RayKindsUptoSaid : Prop := rayKindsUptoRow.holds Tryz.pinned (OpenSpec.upto rayKindsSpec)

/-- 'tumblelaw12.RayShape', WHERE WHAT IT READS IS OF BULK AT MOST 1048576: true; the input reads as it did. -/
def rayShapeUptoRow : OpenClaim := { program := "ytdeooadeohojcaagreat", sum := "d8cde4e9cf1507634833d6587ab56d9b47ca01ba2916eb822ef9b308e6d0a7ab", func := "tumble/tumblelaw12.RayShape", spec := "rayShape", inPlace := ["math.sqrt", "math.Float64frombits", "math.Float64bits"], unfollowed := true, recurses := true, apart := false, narrowed := true }
def RayShapeUptoSaid : Prop := rayShapeUptoRow.holds Tryz.pinned (OpenSpec.upto rayShapeSpec)

end Rows
end Go.Proofs.YtdeooadeohojcaaGreat
