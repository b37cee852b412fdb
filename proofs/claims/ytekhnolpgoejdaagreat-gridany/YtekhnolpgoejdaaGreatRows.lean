/-
  No cell of these rows narrows 'for every input' (looked for: loops, veiled, ifaces, maps, wideKeys, modest, calm, conditions, laid).
  DERIVED. THE GIVEN ROWS OF THIS SEAT. 4 by the template 'for every input the law returns true; each argument reads behind the call as it read before'; 0 by the template 'total and deterministic' (their statements: YtekhnolpgoejdaaGreatTotals.lean).
  GIVEN WITH THE SEED: the statements are not yours to turn. If you find one false, say at which input.
  Laid BY PROGRAM, IN A SANDBOX (cutbox-rows.mjs): the forced cells as the released guide's own fill.sh prints them over the translation af83f4f964de5116… (all of the seat's roots in one cut). By AI agents, Wed Nov 11 2026. No macro, syntax, notation, axiom, sorry.
-/
import Derived.Test.YtekhnolpgoejdaaGreatChecked
import GoSem.Claim
import GoSem.ClaimJoined
import GoSem.ClaimMapViews
import Derived.JoinedTies
import Derived.KernelRfl
namespace Go.Proofs.YtekhnolpgoejdaaGreat
/- THE CELL 'sum', in the pinned program and in every row, IS THE sha256 OF THE DUMP (.gsa) THAT YtekhnolpgoejdaaGreatProg.lean LOADS. Nothing in Lean hashes anything: it is a label: what it is worth is what the hold of that sum in a sandbox is worth. -/
noncomputable def Tryz.pinned : Pinned := { name := "ytekhnolpgoejdaagreat", sum := "af83f4f964de51160840afbf5755da4c98c0033a59a32388467e8c0bc7e42db8", checked := Tryz.checked }
namespace Rows
def none {H : Type} : Left H := { results := [], args := [] }

/-- 'tumblelaw14.GridPairs': WHATEVER THE INPUT: true; the input reads as it did. -/
def gridPairsSpec : ChangeSpec := { name := "gridPairs", fn := fun _ => fun
  | [d1, d2] => { results := [.lit (.bool true)], args := [d1, d2] }
  | _ => none }
def gridPairsRow : OpenClaim := { program := "ytekhnolpgoejdaagreat", sum := "af83f4f964de51160840afbf5755da4c98c0033a59a32388467e8c0bc7e42db8", func := "tumble/tumblelaw14.GridPairs", spec := "gridPairs", inPlace := ["math.archFloor", "math.Float64bits", "math.Float64frombits", "math.archTrunc"], unfollowed := true, recurses := true, plainKeys := false, apart := false }
def GridPairsSaid : Prop := gridPairsRow.holds Tryz.pinned (OpenSpec.ofChange gridPairsSpec)

/-- ITS FALSE NEIGHBOUR: 'it returns false'. Refute it at one input. -/
def gridPairsWrong : ChangeSpec := { name := "gridPairs", fn := fun _ => fun
  | [d1, d2] => { results := [.lit (.bool false)], args := [d1, d2] }
  | _ => none }
def GridPairsWrongFalsely : Prop := gridPairsRow.holds Tryz.pinned (OpenSpec.ofChange gridPairsWrong)

/-- 'tumblelaw14.GridWiths': WHATEVER THE INPUT: true; the input reads as it did. -/
def gridWithsSpec : ChangeSpec := { name := "gridWiths", fn := fun _ => fun
  | [d1, d2, d3] => { results := [.lit (.bool true)], args := [d1, d2, d3] }
  | _ => none }
def gridWithsRow : OpenClaim := { program := "ytekhnolpgoejdaagreat", sum := "af83f4f964de51160840afbf5755da4c98c0033a59a32388467e8c0bc7e42db8", func := "tumble/tumblelaw14.GridWiths", spec := "gridWiths", inPlace := ["math.archFloor", "math.Float64bits", "math.Float64frombits", "math.archTrunc"], unfollowed := true, recurses := true, plainKeys := false, apart := false }
def GridWithsSaid : Prop := gridWithsRow.holds Tryz.pinned (OpenSpec.ofChange gridWithsSpec)

/-- ITS FALSE NEIGHBOUR: 'it returns false'. Refute it at one input. -/
def gridWithsWrong : ChangeSpec := { name := "gridWiths", fn := fun _ => fun
  | [d1, d2, d3] => { results := [.lit (.bool false)], args := [d1, d2, d3] }
  | _ => none }
def GridWithsWrongFalsely : Prop := gridWithsRow.holds Tryz.pinned (OpenSpec.ofChange gridWithsWrong)

/-- 'tumblelaw14.GridWidths': WHATEVER THE INPUT: true; the input reads as it did. -/
def gridWidthsSpec : ChangeSpec := { name := "gridWidths", fn := fun _ => fun
  | [d] => { results := [.lit (.bool true)], args := [d] }
  | _ => none }
def gridWidthsRow : OpenClaim := { program := "ytekhnolpgoejdaagreat", sum := "af83f4f964de51160840afbf5755da4c98c0033a59a32388467e8c0bc7e42db8", func := "tumble/tumblelaw14.GridWidths", spec := "gridWidths", inPlace := ["math.archFloor", "math.Float64bits", "math.Float64frombits", "math.archTrunc"], unfollowed := true, recurses := true, plainKeys := false, apart := false }
def GridWidthsSaid : Prop := gridWidthsRow.holds Tryz.pinned (OpenSpec.ofChange gridWidthsSpec)

/-- ITS FALSE NEIGHBOUR: 'it returns false'. Refute it at one input. -/
def gridWidthsWrong : ChangeSpec := { name := "gridWidths", fn := fun _ => fun
  | [d] => { results := [.lit (.bool false)], args := [d] }
  | _ => none }
def GridWidthsWrongFalsely : Prop := gridWidthsRow.holds Tryz.pinned (OpenSpec.ofChange gridWidthsWrong)

/-- 'tumblelaw14.GridAny': WHATEVER THE INPUT: true; the input reads as it did. -/
def gridAnySpec : ChangeSpec := { name := "gridAny", fn := fun _ => fun
  | [d1, d2, d3] => { results := [.lit (.bool true)], args := [d1, d2, d3] }
  | _ => none }
def gridAnyRow : OpenClaim := { program := "ytekhnolpgoejdaagreat", sum := "af83f4f964de51160840afbf5755da4c98c0033a59a32388467e8c0bc7e42db8", func := "tumble/tumblelaw14.GridAny", spec := "gridAny", inPlace := ["math.archFloor", "math.Float64bits", "math.Float64frombits", "math.archTrunc"], unfollowed := true, recurses := true, plainKeys := false, apart := false }
def GridAnySaid : Prop := gridAnyRow.holds Tryz.pinned (OpenSpec.ofChange gridAnySpec)

/-- ITS FALSE NEIGHBOUR: 'it returns false'. Refute it at one input. -/
def gridAnyWrong : ChangeSpec := { name := "gridAny", fn := fun _ => fun
  | [d1, d2, d3] => { results := [.lit (.bool false)], args := [d1, d2, d3] }
  | _ => none }
def GridAnyWrongFalsely : Prop := gridAnyRow.holds Tryz.pinned (OpenSpec.ofChange gridAnyWrong)

/- THE SECOND FORM. 'bulk': how many values and letters a reading holds, each counted each time it is reached (what is shared counts as often as it is met; a slice's spare places count too). A statement '..UptoSaid' is the law's where the arguments, and the package variables that the reading takes, are together of bulk at most 1048576: NARROWER than '..Said'. Prove '..Said' where nothing that the law and all that it calls make is longer than what came in: it says more and counts as full. Else prove '..UptoSaid'. A law counts once. -/
mutual
def uptoBulk {H : Type} : DataW H → Nat
  | .lit (.string bytes) => bytes.length + 1
  | .lit _ => 1
  | .nil => 1
  | .ptr d => uptoBulk d + 1
  | .slice elems spare => uptoBulkAll elems + uptoBulkAll spare + 1
  | .agg parts => uptoBulkAll parts + 1
  | .iface _ d => uptoBulk d + 1
  | .map entries => uptoBulkEntries entries + 1
  | .held _ => 1
def uptoBulkAll {H : Type} : List (DataW H) → Nat
  | [] => 0
  | d :: r => uptoBulk d + uptoBulkAll r
def uptoBulkEntries {H : Type} : List (Lit × DataW H) → Nat
  | [] => 0
  | x :: r => uptoBulkEntry x + uptoBulkEntries r
def uptoBulkEntry {H : Type} : Lit × DataW H → Nat
  | (.string bytes, d) => bytes.length + uptoBulk d + 1
  | (_, d) => uptoBulk d + 1
 end
def uptoSmall : (H : Type) → List (DataW H) → Bool := fun _ ds => decide (uptoBulkAll ds ≤ 1048576)
def OpenSpec.upto (s : _root_.Go.ChangeSpec) : _root_.Go.OpenSpec := { _root_.Go.OpenSpec.ofChange s with cond := some uptoSmall }

/-- 'tumblelaw14.GridPairs', WHERE WHAT IT READS IS OF BULK AT MOST 1048576: true; the input reads as it did. -/
def gridPairsUptoRow : OpenClaim := { program := "ytekhnolpgoejdaagreat", sum := "af83f4f964de51160840afbf5755da4c98c0033a59a32388467e8c0bc7e42db8", func := "tumble/tumblelaw14.GridPairs", spec := "gridPairs", inPlace := ["math.archFloor", "math.Float64bits", "math.Float64frombits", "math.archTrunc"], unfollowed := true, recurses := true, plainKeys := false, apart := false, narrowed := true }
def GridPairsUptoSaid : Prop := gridPairsUptoRow.holds Tryz.pinned (OpenSpec.upto gridPairsSpec)

/-- 'tumblelaw14.GridWiths', WHERE WHAT IT READS IS OF BULK AT MOST 1048576: true; the input reads as it did. -/
def gridWithsUptoRow : OpenClaim := { program := "ytekhnolpgoejdaagreat", sum := "af83f4f964de51160840afbf5755da4c98c0033a59a32388467e8c0bc7e42db8", func := "tumble/tumblelaw14.GridWiths", spec := "gridWiths", inPlace := ["math.archFloor", "math.Float64bits", "math.Float64frombits", "math.archTrunc"], unfollowed := true, recurses := true, plainKeys := false, apart := false, narrowed := true }
def GridWithsUptoSaid : Prop := gridWithsUptoRow.holds Tryz.pinned (OpenSpec.upto gridWithsSpec)

/-- 'tumblelaw14.GridWidths', WHERE WHAT IT READS IS OF BULK AT MOST 1048576: true; the input reads as it did. -/
def gridWidthsUptoRow : OpenClaim := { program := "ytekhnolpgoejdaagreat", sum := "af83f4f964de51160840afbf5755da4c98c0033a59a32388467e8c0bc7e42db8", func := "tumble/tumblelaw14.GridWidths", spec := "gridWidths", inPlace := ["math.archFloor", "math.Float64bits", "math.Float64frombits", "math.archTrunc"], unfollowed := true, recurses := true, plainKeys := false, apart := false, narrowed := true }
def GridWidthsUptoSaid : Prop := gridWidthsUptoRow.holds Tryz.pinned (OpenSpec.upto gridWidthsSpec)

/-- 'tumblelaw14.GridAny', WHERE WHAT IT READS IS OF BULK AT MOST 1048576: true; the input reads as it did. -/
def gridAnyUptoRow : OpenClaim := { program := "ytekhnolpgoejdaagreat", sum := "af83f4f964de51160840afbf5755da4c98c0033a59a32388467e8c0bc7e42db8", func := "tumble/tumblelaw14.GridAny", spec := "gridAny", inPlace := ["math.archFloor", "math.Float64bits", "math.Float64frombits", "math.archTrunc"], unfollowed := true, recurses := true, plainKeys := false, apart := false, narrowed := true }
def GridAnyUptoSaid : Prop := gridAnyUptoRow.holds Tryz.pinned (OpenSpec.upto gridAnySpec)

end Rows
end Go.Proofs.YtekhnolpgoejdaaGreat
