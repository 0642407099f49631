/-
  No cell of these rows narrows 'for every input' (looked for: loops, veiled, ifaces, maps, wideKeys, modest, calm, conditions, laid).
  DERIVED. THE GIVEN ROWS OF THIS SEAT. 3 by the template 'for every input the law returns true; each argument reads behind the call as it read before'; 0 by the template 'total and deterministic' (their statements: YtmgdicpcljippacTotals.lean).
  GIVEN WITH THE SEED: the statements are not yours to turn. If you find one false, say at which input.
  Laid BY PROGRAM, IN A SANDBOX (cutbox-rows.mjs): the forced cells as the released guide's own fill.sh prints them over the translation 6d0eb0f7d4319b4e… (all of the seat's roots in one cut). By AI agents, Wed Nov 11 2026. No macro, syntax, notation, axiom, sorry.
-/
import Derived.Test.YtmgdicpcljippacChecked
import GoSem.Claim
import GoSem.ClaimJoined
import GoSem.ClaimMapViews
import Derived.JoinedTies
import Derived.KernelRfl
namespace Go.Proofs.Ytmgdicpcljippac
/- THE CELL 'sum', in the pinned program and in every row, IS THE sha256 OF THE DUMP (.gsa) THAT YtmgdicpcljippacProg.lean LOADS. Nothing in Lean hashes anything: it is a label: what it is worth is what the hold of that sum in a sandbox is worth. -/
noncomputable def Try.pinned : Pinned := { name := "ytmgdicpcljippac", sum := "6d0eb0f7d4319b4e2cd2812a583f400b0a2f5a483bcc9fe1f4de6dc445662082", checked := Try.checked }
namespace Rows
def none {H : Type} : Left H := { results := [], args := [] }

/-- 'quavertop.WholeParts': WHATEVER THE INPUT: true; the input reads as it did. -/
def wholePartsSpec : ChangeSpec := { name := "wholeParts", fn := fun _ => fun
  | [d1, d2, d3, d4] => { results := [.lit (.bool true)], args := [d1, d2, d3, d4] }
  | _ => none }
def wholePartsRow : OpenClaim := { program := "ytmgdicpcljippac", sum := "6d0eb0f7d4319b4e2cd2812a583f400b0a2f5a483bcc9fe1f4de6dc445662082", func := "quaver/quavertop.WholeParts", spec := "wholeParts", inPlace := ["math.Float64frombits", "math.Float64bits", "math.sqrt"], apart := false }
def WholePartsSaid : Prop := wholePartsRow.holds Try.pinned (OpenSpec.ofChange wholePartsSpec)

/-- ITS FALSE NEIGHBOUR: 'it returns false'. Refute it at one input. -/
def wholePartsWrong : ChangeSpec := { name := "wholeParts", fn := fun _ => fun
  | [d1, d2, d3, d4] => { results := [.lit (.bool false)], args := [d1, d2, d3, d4] }
  | _ => none }
def WholePartsWrongFalsely : Prop := wholePartsRow.holds Try.pinned (OpenSpec.ofChange wholePartsWrong)

/-- 'quavertop.WholeMagnitudes': WHATEVER THE INPUT: true; the input reads as it did. -/
def wholeMagnitudesSpec : ChangeSpec := { name := "wholeMagnitudes", fn := fun _ => fun
  | [d1, d2] => { results := [.lit (.bool true)], args := [d1, d2] }
  | _ => none }
def wholeMagnitudesRow : OpenClaim := { program := "ytmgdicpcljippac", sum := "6d0eb0f7d4319b4e2cd2812a583f400b0a2f5a483bcc9fe1f4de6dc445662082", func := "quaver/quavertop.WholeMagnitudes", spec := "wholeMagnitudes", inPlace := ["math.Float64frombits", "math.Float64bits", "math.sqrt", "math.archMax"], apart := false }
def WholeMagnitudesSaid : Prop := wholeMagnitudesRow.holds Try.pinned (OpenSpec.ofChange wholeMagnitudesSpec)

/-- ITS FALSE NEIGHBOUR: 'it returns false'. Refute it at one input. -/
def wholeMagnitudesWrong : ChangeSpec := { name := "wholeMagnitudes", fn := fun _ => fun
  | [d1, d2] => { results := [.lit (.bool false)], args := [d1, d2] }
  | _ => none }
def WholeMagnitudesWrongFalsely : Prop := wholeMagnitudesRow.holds Try.pinned (OpenSpec.ofChange wholeMagnitudesWrong)

/-- 'quavertop.WholeNarrow': WHATEVER THE INPUT: true; the input reads as it did. -/
def wholeNarrowSpec : ChangeSpec := { name := "wholeNarrow", fn := fun _ => fun
  | [d1, d2, d3, d4, d5, d6] => { results := [.lit (.bool true)], args := [d1, d2, d3, d4, d5, d6] }
  | _ => none }
def wholeNarrowRow : OpenClaim := { program := "ytmgdicpcljippac", sum := "6d0eb0f7d4319b4e2cd2812a583f400b0a2f5a483bcc9fe1f4de6dc445662082", func := "quaver/quavertop.WholeNarrow", spec := "wholeNarrow", inPlace := ["math.Float64frombits", "math.Float64bits"], apart := false }
def WholeNarrowSaid : Prop := wholeNarrowRow.holds Try.pinned (OpenSpec.ofChange wholeNarrowSpec)

/-- ITS FALSE NEIGHBOUR: 'it returns false'. Refute it at one input. -/
def wholeNarrowWrong : ChangeSpec := { name := "wholeNarrow", fn := fun _ => fun
  | [d1, d2, d3, d4, d5, d6] => { results := [.lit (.bool false)], args := [d1, d2, d3, d4, d5, d6] }
  | _ => none }
def WholeNarrowWrongFalsely : Prop := wholeNarrowRow.holds Try.pinned (OpenSpec.ofChange wholeNarrowWrong)

/- THE SECOND FORM. 'bulk': how many values and letters a reading holds, each counted each time it is reached (what is shared counts as often as it is met; a slice's spare places count too). A statement '..UptoSaid' is the law's where the arguments, and the package variables that the reading takes, are together of bulk at most 1048576: NARROWER than '..Said'. Prove '..Said' where nothing that the law and all that it calls make is longer than what came in: it says more and counts as full. Else prove '..UptoSaid'. A law counts once. -/
mutual
def uptoBulk {H : Type} : DataW H → Nat
  | .lit (.string bytes) => bytes.length + 1
  | .lit _ => 1
  | .nil => 1
  | .ptr d => uptoBulk d + 1
  | .slice elems spare => uptoBulkAll elems + uptoBulkAll spare + 1
  | .agg parts => uptoBulkAll parts + 1
  | .iface _ d => uptoBulk d + 1
  | .map entries => uptoBulkEntries entries + 1
  | .held _ => 1
def uptoBulkAll {H : Type} : List (DataW H) → Nat
  | [] => 0
  | d :: r => uptoBulk d + uptoBulkAll r
def uptoBulkEntries {H : Type} : List (Lit × DataW H) → Nat
  | [] => 0
  | x :: r => uptoBulkEntry x + uptoBulkEntries r
def uptoBulkEntry {H : Type} : Lit × DataW H → Nat
  | (.string bytes, d) => bytes.length + uptoBulk d + 1
  | (_, d) => uptoBulk d + 1
 end
def uptoSmall : (H : Type) → List (DataW H) → Bool := fun _ ds => decide (uptoBulkAll ds ≤ 1048576)
def OpenSpec.upto (s : _root_.Go.ChangeSpec) : _root_.Go.OpenSpec := { _root_.Go.OpenSpec.ofChange s with cond := some uptoSmall }

/-- 'quavertop.WholeParts', WHERE WHAT IT READS IS OF BULK AT MOST 1048576: true; the input reads as it did. -/
def wholePartsUptoRow : OpenClaim := { program := "ytmgdicpcljippac", sum := "6d0eb0f7d4319b4e2cd2812a583f400b0a2f5a483bcc9fe1f4de6dc445662082", func := "quaver/quavertop.WholeParts", spec := "wholeParts", inPlace := ["math.Float64frombits", "math.Float64bits", "math.sqrt"], apart := false, narrowed := true }
def WholePartsUptoSaid : Prop := wholePartsUptoRow.holds Try.pinned (OpenSpec.upto wholePartsSpec)

/-- 'quavertop.WholeMagnitudes', WHERE WHAT IT READS IS OF BULK AT MOST 1048576: true; the input reads as it did. -/
def wholeMagnitudesUptoRow : OpenClaim := { program := "ytmgdicpcljippac", sum := "6d0eb0f7d4319b4e2cd2812a583f400b0a2f5a483bcc9fe1f4de6dc445662082", func := "quaver/quavertop.WholeMagnitudes", spec := "wholeMagnitudes", inPlace := ["math.Float64frombits", "math.Float64bits", "math.sqrt", "math.archMax"], apart := false, narrowed := true }
def WholeMagnitudesUptoSaid : Prop := wholeMagnitudesUptoRow.holds Try.pinned (OpenSpec.upto wholeMagnitudesSpec)

/-- 'quavertop.WholeNarrow', WHERE WHAT IT READS IS OF BULK AT MOST 1048576: true; the input reads as it did. -/
def wholeNarrowUptoRow : OpenClaim := { program := "ytmgdicpcljippac", sum := "6d0eb0f7d4319b4e2cd2812a583f400b0a2f5a483bcc9fe1f4de6dc445662082", func := "quaver/quavertop.WholeNarrow", spec := "wholeNarrow", inPlace := ["math.Float64frombits", "math.Float64bits"], apart := false, narrowed := true }
def WholeNarrowUptoSaid : Prop := wholeNarrowUptoRow.holds Try.pinned (OpenSpec.upto wholeNarrowSpec)

end Rows
end Go.Proofs.Ytmgdicpcljippac
