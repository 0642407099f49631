/-
  No cell of these rows narrows 'for every input' (looked for: loops, veiled, ifaces, maps, wideKeys, modest, calm, conditions, laid).
  DERIVED. THE GIVEN ROWS OF THIS SEAT. 4 by the template 'for every input the law returns true; each argument reads behind the call as it read before'; 0 by the template 'total and deterministic' (their statements: YtmddclgidccnhaaTotals.lean).
  GIVEN WITH THE SEED: the statements are not yours to turn. If you find one false, say at which input.
  Laid BY PROGRAM, IN A SANDBOX (cutbox-rows.mjs): the forced cells as the released guide's own fill.sh prints them over the translation 19fa57a582f6ffb4… (all of the seat's roots in one cut). By AI agents, Wed Nov 11 2026. No macro, syntax, notation, axiom, sorry.
-/
import Derived.Test.YtmddclgidccnhaaChecked
import GoSem.Claim
import GoSem.ClaimJoined
import GoSem.ClaimMapViews
import Derived.JoinedTies
import Derived.KernelRfl
namespace Go.Proofs.Ytmddclgidccnhaa
/- THE CELL 'sum', in the pinned program and in every row, IS THE sha256 OF THE DUMP (.gsa) THAT YtmddclgidccnhaaProg.lean LOADS. Nothing in Lean hashes anything: it is a label: what it is worth is what the hold of that sum in a sandbox is worth. -/
noncomputable def Try.pinned : Pinned := { name := "ytmddclgidccnhaa", sum := "19fa57a582f6ffb4bdfe10d888a7d24391671e874aae7a18c6ce5bef4829e19c", checked := Try.checked }
namespace Rows
def none {H : Type} : Left H := { results := [], args := [] }

/-- 'quaverlaw25.QuantFixes': WHATEVER THE INPUT: true; the input reads as it did. -/
def quantFixesSpec : ChangeSpec := { name := "quantFixes", fn := fun _ => fun
  | [d1, d2, d3] => { results := [.lit (.bool true)], args := [d1, d2, d3] }
  | _ => none }
def quantFixesRow : OpenClaim := { program := "ytmddclgidccnhaa", sum := "19fa57a582f6ffb4bdfe10d888a7d24391671e874aae7a18c6ce5bef4829e19c", func := "quaver/quaverlaw25.QuantFixes", spec := "quantFixes", inPlace := ["math.Float64bits", "math/bits.Add64", "math.Float64frombits"], apart := false }
def QuantFixesSaid : Prop := quantFixesRow.holds Try.pinned (OpenSpec.ofChange quantFixesSpec)

/-- ITS FALSE NEIGHBOUR: 'it returns false'. Refute it at one input. -/
def quantFixesWrong : ChangeSpec := { name := "quantFixes", fn := fun _ => fun
  | [d1, d2, d3] => { results := [.lit (.bool false)], args := [d1, d2, d3] }
  | _ => none }
def QuantFixesWrongFalsely : Prop := quantFixesRow.holds Try.pinned (OpenSpec.ofChange quantFixesWrong)

/-- 'quaverlaw25.QuantSteps': WHATEVER THE INPUT: true; the input reads as it did. -/
def quantStepsSpec : ChangeSpec := { name := "quantSteps", fn := fun _ => fun
  | [d1, d2, d3] => { results := [.lit (.bool true)], args := [d1, d2, d3] }
  | _ => none }
def quantStepsRow : OpenClaim := { program := "ytmddclgidccnhaa", sum := "19fa57a582f6ffb4bdfe10d888a7d24391671e874aae7a18c6ce5bef4829e19c", func := "quaver/quaverlaw25.QuantSteps", spec := "quantSteps", inPlace := ["math.Float64bits", "math/bits.Add64"], apart := false }
def QuantStepsSaid : Prop := quantStepsRow.holds Try.pinned (OpenSpec.ofChange quantStepsSpec)

/-- ITS FALSE NEIGHBOUR: 'it returns false'. Refute it at one input. -/
def quantStepsWrong : ChangeSpec := { name := "quantSteps", fn := fun _ => fun
  | [d1, d2, d3] => { results := [.lit (.bool false)], args := [d1, d2, d3] }
  | _ => none }
def QuantStepsWrongFalsely : Prop := quantStepsRow.holds Try.pinned (OpenSpec.ofChange quantStepsWrong)

/-- 'quaverlaw25.QuantRuns': WHATEVER THE INPUT: true; the input reads as it did. -/
def quantRunsSpec : ChangeSpec := { name := "quantRuns", fn := fun _ => fun
  | [d1, d2, d3, d4] => { results := [.lit (.bool true)], args := [d1, d2, d3, d4] }
  | _ => none }
def quantRunsRow : OpenClaim := { program := "ytmddclgidccnhaa", sum := "19fa57a582f6ffb4bdfe10d888a7d24391671e874aae7a18c6ce5bef4829e19c", func := "quaver/quaverlaw25.QuantRuns", spec := "quantRuns", inPlace := ["math.Float64bits", "math/bits.Add64"], apart := false }
def QuantRunsSaid : Prop := quantRunsRow.holds Try.pinned (OpenSpec.ofChange quantRunsSpec)

/-- ITS FALSE NEIGHBOUR: 'it returns false'. Refute it at one input. -/
def quantRunsWrong : ChangeSpec := { name := "quantRuns", fn := fun _ => fun
  | [d1, d2, d3, d4] => { results := [.lit (.bool false)], args := [d1, d2, d3, d4] }
  | _ => none }
def QuantRunsWrongFalsely : Prop := quantRunsRow.holds Try.pinned (OpenSpec.ofChange quantRunsWrong)

/-- 'quaverlaw25.QuantWithin': WHATEVER THE INPUT: true; the input reads as it did. -/
def quantWithinSpec : ChangeSpec := { name := "quantWithin", fn := fun _ => fun
  | [d1, d2, d3] => { results := [.lit (.bool true)], args := [d1, d2, d3] }
  | _ => none }
def quantWithinRow : OpenClaim := { program := "ytmddclgidccnhaa", sum := "19fa57a582f6ffb4bdfe10d888a7d24391671e874aae7a18c6ce5bef4829e19c", func := "quaver/quaverlaw25.QuantWithin", spec := "quantWithin", inPlace := ["math.Float64bits", "math/bits.Add64"], apart := false }
def QuantWithinSaid : Prop := quantWithinRow.holds Try.pinned (OpenSpec.ofChange quantWithinSpec)

/-- ITS FALSE NEIGHBOUR: 'it returns false'. Refute it at one input. -/
def quantWithinWrong : ChangeSpec := { name := "quantWithin", fn := fun _ => fun
  | [d1, d2, d3] => { results := [.lit (.bool false)], args := [d1, d2, d3] }
  | _ => none }
def QuantWithinWrongFalsely : Prop := quantWithinRow.holds Try.pinned (OpenSpec.ofChange quantWithinWrong)

/- THE SECOND FORM. 'bulk': how many values and letters a reading holds, each counted each time it is reached (what is shared counts as often as it is met; a slice's spare places count too). A statement '..UptoSaid' is the law's where the arguments, and the package variables that the reading takes, are together of bulk at most 1048576: NARROWER than '..Said'. Prove '..Said' where nothing that the law and all that it calls make is longer than what came in: it says more and counts as full. Else prove '..UptoSaid'. A law counts once. -/
mutual
def uptoBulk {H : Type} : DataW H → Nat
  | .lit (.string bytes) => bytes.length + 1
  | .lit _ => 1
  | .nil => 1
  | .ptr d => uptoBulk d + 1
  | .slice elems spare => uptoBulkAll elems + uptoBulkAll spare + 1
  | .agg parts => uptoBulkAll parts + 1
  | .iface _ d => uptoBulk d + 1
  | .map entries => uptoBulkEntries entries + 1
  | .held _ => 1
def uptoBulkAll {H : Type} : List (DataW H) → Nat
  | [] => 0
  | d :: r => uptoBulk d + uptoBulkAll r
def uptoBulkEntries {H : Type} : List (Lit × DataW H) → Nat
  | [] => 0
  | x :: r => uptoBulkEntry x + uptoBulkEntries r
def uptoBulkEntry {H : Type} : Lit × DataW H → Nat
  | (.string bytes, d) => bytes.length + uptoBulk d + 1
  | (_, d) => uptoBulk d + 1
 end
def uptoSmall : (H : Type) → List (DataW H) → Bool := fun _ ds => decide (uptoBulkAll ds ≤ 1048576)
def OpenSpec.upto (s : _root_.Go.ChangeSpec) : _root_.Go.OpenSpec := { _root_.Go.OpenSpec.ofChange s with cond := some uptoSmall }

/-- 'quaverlaw25.QuantFixes', WHERE WHAT IT READS IS OF BULK AT MOST 1048576: true; the input reads as it did. -/
def quantFixesUptoRow : OpenClaim := { program := "ytmddclgidccnhaa", sum := "19fa57a582f6ffb4bdfe10d888a7d24391671e874aae7a18c6ce5bef4829e19c", func := "quaver/quaverlaw25.QuantFixes", spec := "quantFixes", inPlace := ["math.Float64bits", "math/bits.Add64", "math.Float64frombits"], apart := false, narrowed := true }
def QuantFixesUptoSaid : Prop := quantFixesUptoRow.holds Try.pinned (OpenSpec.upto quantFixesSpec)

/-- 'quaverlaw25.QuantSteps', WHERE WHAT IT READS IS OF BULK AT MOST 1048576: true; the input reads as it did. -/
def quantStepsUptoRow : OpenClaim := { program := "ytmddclgidccnhaa", sum := "19fa57a582f6ffb4bdfe10d888a7d24391671e874aae7a18c6ce5bef4829e19c", func := "quaver/quaverlaw25.QuantSteps", spec := "quantSteps", inPlace := ["math.Float64bits", "math/bits.Add64"], apart := false, narrowed := true }
def QuantStepsUptoSaid : Prop := quantStepsUptoRow.holds Try.pinned (OpenSpec.upto quantStepsSpec)

/-- 'quaverlaw25.QuantRuns', WHERE WHAT IT READS IS OF BULK AT MOST 1048576: true; the input reads as it did. -/
def quantRunsUptoRow : OpenClaim := { program := "ytmddclgidccnhaa", sum := "19fa57a582f6ffb4bdfe10d888a7d24391671e874aae7a18c6ce5bef4829e19c", func := "quaver/quaverlaw25.QuantRuns", spec := "quantRuns", inPlace := ["math.Float64bits", "math/bits.Add64"], apart := false, narrowed := true }
def QuantRunsUptoSaid : Prop := quantRunsUptoRow.holds Try.pinned (OpenSpec.upto quantRunsSpec)

/-- 'quaverlaw25.QuantWithin', WHERE WHAT IT READS IS OF BULK AT MOST 1048576: true; the input reads as it did. -/
def quantWithinUptoRow : OpenClaim := { program := "ytmddclgidccnhaa", sum := "19fa57a582f6ffb4bdfe10d888a7d24391671e874aae7a18c6ce5bef4829e19c", func := "quaver/quaverlaw25.QuantWithin", spec := "quantWithin", inPlace := ["math.Float64bits", "math/bits.Add64"], apart := false, narrowed := true }
def QuantWithinUptoSaid : Prop := quantWithinUptoRow.holds Try.pinned (OpenSpec.upto quantWithinSpec)

end Rows
end Go.Proofs.Ytmddclgidccnhaa
