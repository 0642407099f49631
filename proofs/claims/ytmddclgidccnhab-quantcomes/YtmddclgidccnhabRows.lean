/-
  No cell of these rows narrows 'for every input' (looked for: loops, veiled, ifaces, maps, wideKeys, modest, calm, conditions, laid).
  DERIVED. THE GIVEN ROWS OF THIS SEAT. 4 by the template 'for every input the law returns true; each argument reads behind the call as it read before'; 0 by the template 'total and deterministic' (their statements: YtmddclgidccnhabTotals.lean).
  GIVEN WITH THE SEED: the statements are not yours to turn. If you find one false, say at which input.
  Laid BY PROGRAM, IN A SANDBOX (cutbox-rows.mjs): the forced cells as the released guide's own fill.sh prints them over the translation 04e5fd92d664c4f4… (all of the seat's roots in one cut). By AI agents, Wed Nov 11 2026. No macro, syntax, notation, axiom, sorry.
-/
import Derived.Test.YtmddclgidccnhabChecked
import GoSem.Claim
import GoSem.ClaimJoined
import GoSem.ClaimMapViews
import Derived.JoinedTies
import Derived.KernelRfl
namespace Go.Proofs.Ytmddclgidccnhab
/- THE CELL 'sum', in the pinned program and in every row, IS THE sha256 OF THE DUMP (.gsa) THAT YtmddclgidccnhabProg.lean LOADS. Nothing in Lean hashes anything: it is a label: what it is worth is what the hold of that sum in a sandbox is worth. -/
noncomputable def Try.pinned : Pinned := { name := "ytmddclgidccnhab", sum := "04e5fd92d664c4f4455b02ecbe951b2f02e41a4d86628d5cc8ce563de7abcd4c", checked := Try.checked }
namespace Rows
def none {H : Type} : Left H := { results := [], args := [] }

/-- 'quaverlaw25.QuantCycles': WHATEVER THE INPUT: true; the input reads as it did. -/
def quantCyclesSpec : ChangeSpec := { name := "quantCycles", fn := fun _ => fun
  | [d1, d2, d3] => { results := [.lit (.bool true)], args := [d1, d2, d3] }
  | _ => none }
def quantCyclesRow : OpenClaim := { program := "ytmddclgidccnhab", sum := "04e5fd92d664c4f4455b02ecbe951b2f02e41a4d86628d5cc8ce563de7abcd4c", func := "quaver/quaverlaw25.QuantCycles", spec := "quantCycles", inPlace := ["math.Float64bits", "math/bits.Add64"], apart := false }
def QuantCyclesSaid : Prop := quantCyclesRow.holds Try.pinned (OpenSpec.ofChange quantCyclesSpec)

/-- ITS FALSE NEIGHBOUR: 'it returns false'. Refute it at one input. -/
def quantCyclesWrong : ChangeSpec := { name := "quantCycles", fn := fun _ => fun
  | [d1, d2, d3] => { results := [.lit (.bool false)], args := [d1, d2, d3] }
  | _ => none }
def QuantCyclesWrongFalsely : Prop := quantCyclesRow.holds Try.pinned (OpenSpec.ofChange quantCyclesWrong)

/-- 'quaverlaw25.QuantComes': WHATEVER THE INPUT: true; the input reads as it did. -/
def quantComesSpec : ChangeSpec := { name := "quantComes", fn := fun _ => fun
  | [d1, d2] => { results := [.lit (.bool true)], args := [d1, d2] }
  | _ => none }
def quantComesRow : OpenClaim := { program := "ytmddclgidccnhab", sum := "04e5fd92d664c4f4455b02ecbe951b2f02e41a4d86628d5cc8ce563de7abcd4c", func := "quaver/quaverlaw25.QuantComes", spec := "quantComes", inPlace := ["math.Float64bits", "math/bits.Add64"], apart := false }
def QuantComesSaid : Prop := quantComesRow.holds Try.pinned (OpenSpec.ofChange quantComesSpec)

/-- ITS FALSE NEIGHBOUR: 'it returns false'. Refute it at one input. -/
def quantComesWrong : ChangeSpec := { name := "quantComes", fn := fun _ => fun
  | [d1, d2] => { results := [.lit (.bool false)], args := [d1, d2] }
  | _ => none }
def QuantComesWrongFalsely : Prop := quantComesRow.holds Try.pinned (OpenSpec.ofChange quantComesWrong)

/-- 'quaverlaw25.QuantFixed': WHATEVER THE INPUT: true; the input reads as it did. -/
def quantFixedSpec : ChangeSpec := { name := "quantFixed", fn := fun _ => fun
  | [] => { results := [.lit (.bool true)], args := [] }
  | _ => none }
def quantFixedRow : OpenClaim := { program := "ytmddclgidccnhab", sum := "04e5fd92d664c4f4455b02ecbe951b2f02e41a4d86628d5cc8ce563de7abcd4c", func := "quaver/quaverlaw25.QuantFixed", spec := "quantFixed", inPlace := ["math.Float64bits", "math/bits.Add64", "math.Float64frombits"], apart := false }
def QuantFixedSaid : Prop := quantFixedRow.holds Try.pinned (OpenSpec.ofChange quantFixedSpec)

/-- ITS FALSE NEIGHBOUR: 'it returns false'. Refute it at one input. -/
def quantFixedWrong : ChangeSpec := { name := "quantFixed", fn := fun _ => fun
  | [] => { results := [.lit (.bool false)], args := [] }
  | _ => none }
def QuantFixedWrongFalsely : Prop := quantFixedRow.holds Try.pinned (OpenSpec.ofChange quantFixedWrong)

/-- 'quaverlaw25.QuantMemory': WHATEVER THE INPUT: true; the input reads as it did. -/
def quantMemorySpec : ChangeSpec := { name := "quantMemory", fn := fun _ => fun
  | [d1, d2, d3] => { results := [.lit (.bool true)], args := [d1, d2, d3] }
  | _ => none }
def quantMemoryRow : OpenClaim := { program := "ytmddclgidccnhab", sum := "04e5fd92d664c4f4455b02ecbe951b2f02e41a4d86628d5cc8ce563de7abcd4c", func := "quaver/quaverlaw25.QuantMemory", spec := "quantMemory", inPlace := ["math.Float64bits", "math/bits.Add64"], apart := false }
def QuantMemorySaid : Prop := quantMemoryRow.holds Try.pinned (OpenSpec.ofChange quantMemorySpec)

/-- ITS FALSE NEIGHBOUR: 'it returns false'. Refute it at one input. -/
def quantMemoryWrong : ChangeSpec := { name := "quantMemory", fn := fun _ => fun
  | [d1, d2, d3] => { results := [.lit (.bool false)], args := [d1, d2, d3] }
  | _ => none }
def QuantMemoryWrongFalsely : Prop := quantMemoryRow.holds Try.pinned (OpenSpec.ofChange quantMemoryWrong)

/- THE SECOND FORM. 'bulk': how many values and letters a reading holds, each counted each time it is reached (what is shared counts as often as it is met; a slice's spare places count too). A statement '..UptoSaid' is the law's where the arguments, and the package variables that the reading takes, are together of bulk at most 1048576: NARROWER than '..Said'. Prove '..Said' where nothing that the law and all that it calls make is longer than what came in: it says more and counts as full. Else prove '..UptoSaid'. A law counts once. -/
mutual
def uptoBulk {H : Type} : DataW H → Nat
  | .lit (.string bytes) => bytes.length + 1
  | .lit _ => 1
  | .nil => 1
  | .ptr d => uptoBulk d + 1
  | .slice elems spare => uptoBulkAll elems + uptoBulkAll spare + 1
  | .agg parts => uptoBulkAll parts + 1
  | .iface _ d => uptoBulk d + 1
  | .map entries => uptoBulkEntries entries + 1
  | .held _ => 1
def uptoBulkAll {H : Type} : List (DataW H) → Nat
  | [] => 0
  | d :: r => uptoBulk d + uptoBulkAll r
def uptoBulkEntries {H : Type} : List (Lit × DataW H) → Nat
  | [] => 0
  | x :: r => uptoBulkEntry x + uptoBulkEntries r
def uptoBulkEntry {H : Type} : Lit × DataW H → Nat
  | (.string bytes, d) => bytes.length + uptoBulk d + 1
  | (_, d) => uptoBulk d + 1
 end
def uptoSmall : (H : Type) → List (DataW H) → Bool := fun _ ds => decide (uptoBulkAll ds ≤ 1048576)
def OpenSpec.upto (s : _root_.Go.ChangeSpec) : _root_.Go.OpenSpec := { _root_.Go.OpenSpec.ofChange s with cond := some uptoSmall }

/-- 'quaverlaw25.QuantCycles', WHERE WHAT IT READS IS OF BULK AT MOST 1048576: true; the input reads as it did. -/
def quantCyclesUptoRow : OpenClaim := { program := "ytmddclgidccnhab", sum := "04e5fd92d664c4f4455b02ecbe951b2f02e41a4d86628d5cc8ce563de7abcd4c", func := "quaver/quaverlaw25.QuantCycles", spec := "quantCycles", inPlace := ["math.Float64bits", "math/bits.Add64"], apart := false, narrowed := true }
def QuantCyclesUptoSaid : Prop := quantCyclesUptoRow.holds Try.pinned (OpenSpec.upto quantCyclesSpec)

/-- 'quaverlaw25.QuantComes', WHERE WHAT IT READS IS OF BULK AT MOST 1048576: true; the input reads as it did. -/
def quantComesUptoRow : OpenClaim := { program := "ytmddclgidccnhab", sum := "04e5fd92d664c4f4455b02ecbe951b2f02e41a4d86628d5cc8ce563de7abcd4c", func := "quaver/quaverlaw25.QuantComes", spec := "quantComes", inPlace := ["math.Float64bits", "math/bits.Add64"], apart := false, narrowed := true }
def QuantComesUptoSaid : Prop := quantComesUptoRow.holds Try.pinned (OpenSpec.upto quantComesSpec)

/-- 'quaverlaw25.QuantFixed', WHERE WHAT IT READS IS OF BULK AT MOST 1048576: true; the input reads as it did. -/
def quantFixedUptoRow : OpenClaim := { program := "ytmddclgidccnhab", sum := "04e5fd92d664c4f4455b02ecbe951b2f02e41a4d86628d5cc8ce563de7abcd4c", func := "quaver/quaverlaw25.QuantFixed", spec := "quantFixed", inPlace := ["math.Float64bits", "math/bits.Add64", "math.Float64frombits"], apart := false, narrowed := true }
def QuantFixedUptoSaid : Prop := quantFixedUptoRow.holds Try.pinned (OpenSpec.upto quantFixedSpec)

/-- 'quaverlaw25.QuantMemory', WHERE WHAT IT READS IS OF BULK AT MOST 1048576: true; the input reads as it did. -/
def quantMemoryUptoRow : OpenClaim := { program := "ytmddclgidccnhab", sum := "04e5fd92d664c4f4455b02ecbe951b2f02e41a4d86628d5cc8ce563de7abcd4c", func := "quaver/quaverlaw25.QuantMemory", spec := "quantMemory", inPlace := ["math.Float64bits", "math/bits.Add64"], apart := false, narrowed := true }
def QuantMemoryUptoSaid : Prop := quantMemoryUptoRow.holds Try.pinned (OpenSpec.upto quantMemorySpec)

end Rows
end Go.Proofs.Ytmddclgidccnhab
