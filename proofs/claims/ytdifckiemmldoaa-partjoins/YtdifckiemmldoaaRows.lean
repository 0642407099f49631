/-
  No cell of these rows narrows 'for every input' (looked for: loops, veiled, ifaces, maps, wideKeys, modest, calm, conditions, laid).
  DERIVED. THE GIVEN ROWS OF THIS SEAT. 6 by the template 'for every input the law returns true; each argument reads behind the call as it read before'; 0 by the template 'total and deterministic' (their statements: YtdifckiemmldoaaTotals.lean).
  GIVEN WITH THE SEED: the statements are not yours to turn. If you find one false, say at which input.
  Laid BY PROGRAM, IN A SANDBOX (cutbox-rows.mjs): the forced cells as the released guide's own fill.sh prints them over the translation 561b98a23a06b5c5… (all of the seat's roots in one cut). By AI agents, Wed Nov 11 2026. No macro, syntax, notation, axiom, sorry.
-/
import Derived.Test.YtdifckiemmldoaaChecked
import GoSem.Claim
import GoSem.ClaimJoined
import GoSem.ClaimMapViews
import Derived.JoinedTies
import Derived.KernelRfl
namespace Go.Proofs.Ytdifckiemmldoaa
/- THE CELL 'sum', in the pinned program and in every row, IS THE sha256 OF THE DUMP (.gsa) THAT YtdifckiemmldoaaProg.lean LOADS. Nothing in Lean hashes anything: it is a label: what it is worth is what the hold of that sum in a sandbox is worth. -/
noncomputable def Try.pinned : Pinned := { name := "ytdifckiemmldoaa", sum := "561b98a23a06b5c5e56637ded3cd6d57d5a32692d4fa434760b1caec9a904881", checked := Try.checked }
namespace Rows
def none {H : Type} : Left H := { results := [], args := [] }

/-- 'quaverlaw01.PartSplits': WHATEVER THE INPUT: true; the input reads as it did. -/
def partSplitsSpec : ChangeSpec := { name := "partSplits", fn := fun _ => fun
  | [d] => { results := [.lit (.bool true)], args := [d] }
  | _ => none }
def partSplitsRow : OpenClaim := { program := "ytdifckiemmldoaa", sum := "561b98a23a06b5c5e56637ded3cd6d57d5a32692d4fa434760b1caec9a904881", func := "quaver/quaverlaw01.PartSplits", spec := "partSplits", inPlace := ["math.Float64bits", "math.Float64frombits"], apart := false }
def PartSplitsSaid : Prop := partSplitsRow.holds Try.pinned (OpenSpec.ofChange partSplitsSpec)

/-- ITS FALSE NEIGHBOUR: 'it returns false'. Refute it at one input. -/
def partSplitsWrong : ChangeSpec := { name := "partSplits", fn := fun _ => fun
  | [d] => { results := [.lit (.bool false)], args := [d] }
  | _ => none }
def PartSplitsWrongFalsely : Prop := partSplitsRow.holds Try.pinned (OpenSpec.ofChange partSplitsWrong)

/-- 'quaverlaw01.PartJoins': WHATEVER THE INPUT: true; the input reads as it did. -/
def partJoinsSpec : ChangeSpec := { name := "partJoins", fn := fun _ => fun
  | [d1, d2, d3] => { results := [.lit (.bool true)], args := [d1, d2, d3] }
  | _ => none }
def partJoinsRow : OpenClaim := { program := "ytdifckiemmldoaa", sum := "561b98a23a06b5c5e56637ded3cd6d57d5a32692d4fa434760b1caec9a904881", func := "quaver/quaverlaw01.PartJoins", spec := "partJoins", inPlace := ["math.Float64bits", "math.Float64frombits"], apart := false }
def PartJoinsSaid : Prop := partJoinsRow.holds Try.pinned (OpenSpec.ofChange partJoinsSpec)

/-- ITS FALSE NEIGHBOUR: 'it returns false'. Refute it at one input. -/
def partJoinsWrong : ChangeSpec := { name := "partJoins", fn := fun _ => fun
  | [d1, d2, d3] => { results := [.lit (.bool false)], args := [d1, d2, d3] }
  | _ => none }
def PartJoinsWrongFalsely : Prop := partJoinsRow.holds Try.pinned (OpenSpec.ofChange partJoinsWrong)

/-- 'quaverlaw01.PartSteps': WHATEVER THE INPUT: true; the input reads as it did. -/
def partStepsSpec : ChangeSpec := { name := "partSteps", fn := fun _ => fun
  | [d] => { results := [.lit (.bool true)], args := [d] }
  | _ => none }
def partStepsRow : OpenClaim := { program := "ytdifckiemmldoaa", sum := "561b98a23a06b5c5e56637ded3cd6d57d5a32692d4fa434760b1caec9a904881", func := "quaver/quaverlaw01.PartSteps", spec := "partSteps", inPlace := ["math.Float64bits", "math.Float64frombits"], apart := false }
def PartStepsSaid : Prop := partStepsRow.holds Try.pinned (OpenSpec.ofChange partStepsSpec)

/-- ITS FALSE NEIGHBOUR: 'it returns false'. Refute it at one input. -/
def partStepsWrong : ChangeSpec := { name := "partSteps", fn := fun _ => fun
  | [d] => { results := [.lit (.bool false)], args := [d] }
  | _ => none }
def PartStepsWrongFalsely : Prop := partStepsRow.holds Try.pinned (OpenSpec.ofChange partStepsWrong)

/-- 'quaverlaw01.PartPairs': WHATEVER THE INPUT: true; the input reads as it did. -/
def partPairsSpec : ChangeSpec := { name := "partPairs", fn := fun _ => fun
  | [d1, d2] => { results := [.lit (.bool true)], args := [d1, d2] }
  | _ => none }
def partPairsRow : OpenClaim := { program := "ytdifckiemmldoaa", sum := "561b98a23a06b5c5e56637ded3cd6d57d5a32692d4fa434760b1caec9a904881", func := "quaver/quaverlaw01.PartPairs", spec := "partPairs", inPlace := ["math.Float64bits", "math.Float64frombits"], apart := false }
def PartPairsSaid : Prop := partPairsRow.holds Try.pinned (OpenSpec.ofChange partPairsSpec)

/-- ITS FALSE NEIGHBOUR: 'it returns false'. Refute it at one input. -/
def partPairsWrong : ChangeSpec := { name := "partPairs", fn := fun _ => fun
  | [d1, d2] => { results := [.lit (.bool false)], args := [d1, d2] }
  | _ => none }
def PartPairsWrongFalsely : Prop := partPairsRow.holds Try.pinned (OpenSpec.ofChange partPairsWrong)

/-- 'quaverlaw01.PartNeighbours': WHATEVER THE INPUT: true; the input reads as it did. -/
def partNeighboursSpec : ChangeSpec := { name := "partNeighbours", fn := fun _ => fun
  | [d] => { results := [.lit (.bool true)], args := [d] }
  | _ => none }
def partNeighboursRow : OpenClaim := { program := "ytdifckiemmldoaa", sum := "561b98a23a06b5c5e56637ded3cd6d57d5a32692d4fa434760b1caec9a904881", func := "quaver/quaverlaw01.PartNeighbours", spec := "partNeighbours", inPlace := ["math.Float64bits", "math.Float64frombits"], apart := false }
def PartNeighboursSaid : Prop := partNeighboursRow.holds Try.pinned (OpenSpec.ofChange partNeighboursSpec)

/-- ITS FALSE NEIGHBOUR: 'it returns false'. Refute it at one input. -/
def partNeighboursWrong : ChangeSpec := { name := "partNeighbours", fn := fun _ => fun
  | [d] => { results := [.lit (.bool false)], args := [d] }
  | _ => none }
def PartNeighboursWrongFalsely : Prop := partNeighboursRow.holds Try.pinned (OpenSpec.ofChange partNeighboursWrong)

/-- 'quaverlaw01.PartOrders': WHATEVER THE INPUT: true; the input reads as it did. -/
def partOrdersSpec : ChangeSpec := { name := "partOrders", fn := fun _ => fun
  | [d1, d2, d3] => { results := [.lit (.bool true)], args := [d1, d2, d3] }
  | _ => none }
def partOrdersRow : OpenClaim := { program := "ytdifckiemmldoaa", sum := "561b98a23a06b5c5e56637ded3cd6d57d5a32692d4fa434760b1caec9a904881", func := "quaver/quaverlaw01.PartOrders", spec := "partOrders", inPlace := ["math.Float64bits", "math.Float64frombits"], apart := false }
def PartOrdersSaid : Prop := partOrdersRow.holds Try.pinned (OpenSpec.ofChange partOrdersSpec)

/-- ITS FALSE NEIGHBOUR: 'it returns false'. Refute it at one input. -/
def partOrdersWrong : ChangeSpec := { name := "partOrders", fn := fun _ => fun
  | [d1, d2, d3] => { results := [.lit (.bool false)], args := [d1, d2, d3] }
  | _ => none }
def PartOrdersWrongFalsely : Prop := partOrdersRow.holds Try.pinned (OpenSpec.ofChange partOrdersWrong)

/- THE SECOND FORM. 'bulk': how many values and letters a reading holds, each counted each time it is reached (what is shared counts as often as it is met; a slice's spare places count too). A statement '..UptoSaid' is the law's where the arguments, and the package variables that the reading takes, are together of bulk at most 1048576: NARROWER than '..Said'. Prove '..Said' where nothing that the law and all that it calls make is longer than what came in: it says more and counts as full. Else prove '..UptoSaid'. A law counts once. -/
mutual
def uptoBulk {H : Type} : DataW H → Nat
  | .lit (.string bytes) => bytes.length + 1
  | .lit _ => 1
  | .nil => 1
  | .ptr d => uptoBulk d + 1
  | .slice elems spare => uptoBulkAll elems + uptoBulkAll spare + 1
  | .agg parts => uptoBulkAll parts + 1
  | .iface _ d => uptoBulk d + 1
  | .map entries => uptoBulkEntries entries + 1
  | .held _ => 1
def uptoBulkAll {H : Type} : List (DataW H) → Nat
  | [] => 0
  | d :: r => uptoBulk d + uptoBulkAll r
def uptoBulkEntries {H : Type} : List (Lit × DataW H) → Nat
  | [] => 0
  | x :: r => uptoBulkEntry x + uptoBulkEntries r
def uptoBulkEntry {H : Type} : Lit × DataW H → Nat
  | (.string bytes, d) => bytes.length + uptoBulk d + 1
  | (_, d) => uptoBulk d + 1
 end
def uptoSmall : (H : Type) → List (DataW H) → Bool := fun _ ds => decide (uptoBulkAll ds ≤ 1048576)
def OpenSpec.upto (s : _root_.Go.ChangeSpec) : _root_.Go.OpenSpec := { _root_.Go.OpenSpec.ofChange s with cond := some uptoSmall }

/-- 'quaverlaw01.PartSplits', WHERE WHAT IT READS IS OF BULK AT MOST 1048576: true; the input reads as it did. -/
def partSplitsUptoRow : OpenClaim := { program := "ytdifckiemmldoaa", sum := "561b98a23a06b5c5e56637ded3cd6d57d5a32692d4fa434760b1caec9a904881", func := "quaver/quaverlaw01.PartSplits", spec := "partSplits", inPlace := ["math.Float64bits", "math.Float64frombits"], apart := false, narrowed := true }
def PartSplitsUptoSaid : Prop := partSplitsUptoRow.holds Try.pinned (OpenSpec.upto partSplitsSpec)

/-- 'quaverlaw01.PartJoins', WHERE WHAT IT READS IS OF BULK AT MOST 1048576: true; the input reads as it did. -/
def partJoinsUptoRow : OpenClaim := { program := "ytdifckiemmldoaa", sum := "561b98a23a06b5c5e56637ded3cd6d57d5a32692d4fa434760b1caec9a904881", func := "quaver/quaverlaw01.PartJoins", spec := "partJoins", inPlace := ["math.Float64bits", "math.Float64frombits"], apart := false, narrowed := true }
def PartJoinsUptoSaid : Prop := partJoinsUptoRow.holds Try.pinned (OpenSpec.upto partJoinsSpec)

/-- 'quaverlaw01.PartSteps', WHERE WHAT IT READS IS OF BULK AT MOST 1048576: true; the input reads as it did. -/
def partStepsUptoRow : OpenClaim := { program := "ytdifckiemmldoaa", sum := "561b98a23a06b5c5e56637ded3cd6d57d5a32692d4fa434760b1caec9a904881", func := "quaver/quaverlaw01.PartSteps", spec := "partSteps", inPlace := ["math.Float64bits", "math.Float64frombits"], apart := false, narrowed := true }
def PartStepsUptoSaid : Prop := partStepsUptoRow.holds Try.pinned (OpenSpec.upto partStepsSpec)

/-- 'quaverlaw01.PartPairs', WHERE WHAT IT READS IS OF BULK AT MOST 1048576: true; the input reads as it did. -/
def partPairsUptoRow : OpenClaim := { program := "ytdifckiemmldoaa", sum := "561b98a23a06b5c5e56637ded3cd6d57d5a32692d4fa434760b1caec9a904881", func := "quaver/quaverlaw01.PartPairs", spec := "partPairs", inPlace := ["math.Float64bits", "math.Float64frombits"], apart := false, narrowed := true }
def PartPairsUptoSaid : Prop := partPairsUptoRow.holds Try.pinned (OpenSpec.upto partPairsSpec)

/-- 'quaverlaw01.PartNeighbours', WHERE WHAT IT READS IS OF BULK AT MOST 1048576: true; the input reads as it did. -/
def partNeighboursUptoRow : OpenClaim := { program := "ytdifckiemmldoaa", sum := "561b98a23a06b5c5e56637ded3cd6d57d5a32692d4fa434760b1caec9a904881", func := "quaver/quaverlaw01.PartNeighbours", spec := "partNeighbours", inPlace := ["math.Float64bits", "math.Float64frombits"], apart := false, narrowed := true }
def PartNeighboursUptoSaid : Prop := partNeighboursUptoRow.holds Try.pinned (OpenSpec.upto partNeighboursSpec)

/-- 'quaverlaw01.PartOrders', WHERE WHAT IT READS IS OF BULK AT MOST 1048576: true; the input reads as it did. -/
def partOrdersUptoRow : OpenClaim := { program := "ytdifckiemmldoaa", sum := "561b98a23a06b5c5e56637ded3cd6d57d5a32692d4fa434760b1caec9a904881", func := "quaver/quaverlaw01.PartOrders", spec := "partOrders", inPlace := ["math.Float64bits", "math.Float64frombits"], apart := false, narrowed := true }
def PartOrdersUptoSaid : Prop := partOrdersUptoRow.holds Try.pinned (OpenSpec.upto partOrdersSpec)

end Rows
end Go.Proofs.Ytdifckiemmldoaa
