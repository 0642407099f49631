/-
  DERIVED. GIVEN WITH THE SEED: THE CARDS: each row of YtbkjmnopljmanaaGreatDoorRows.lean that lists a variable, with what it lists TIED to the program's text (the seventh form; the later family's looks); each row that meets fmt, with fmt's text TOLD by the authors' own Lean function (tested against real Go, not proved from fmt's source: count such statements apart). THE CARD IS WHAT COUNTS. Prove the row's statement (the work); the ties are given (YtbkjmnopljmanaaGreatDoorTie.lean); close each card by the builder's one call (the guide's Derived/Test/ToyasCard.lean, 'card_holds'). Laid BY PROGRAM, IN A SANDBOX (cutbox-door.mjs). By AI agents, Wed Nov 11 2026. No macro, syntax, notation, axiom, sorry.
-/
import Derived.Test.YtbkjmnopljmanaaGreatDoorRows
import GoSem.ClaimSeven
namespace Go.Proofs.YtbkjmnopljmanaaGreatDoor
namespace Rows

/-- THE TIED CARD OF 'quaverlaw27.TextReadZpks'. -/
def textReadZpksCard : Claim7 := { stood := { row := textReadZpksRow, standIns := [], harness := (true, "c4495307812bd561e4c4e92fdd34563df287843a7fd299734e38fcaf22277ceb"), looks := true }, kinds := [], alts := [], laidByText := true, laidKinds := [.data, .data, .data, .sentinel, .sentinel], laidTests := true, laidLooks := .later }
def TextReadZpksCardSaid : Prop := Claim7.holds Tryz.pinned (.plain (OpenSpec.ofChange textReadZpksSpec)) textReadZpksCard

/-- THE TIED CARD OF 'quaverlaw27.TextReadFilters'. -/
def textReadFiltersCard : Claim7 := { stood := { row := textReadFiltersRow, standIns := [], harness := (true, "c4495307812bd561e4c4e92fdd34563df287843a7fd299734e38fcaf22277ceb"), looks := true }, kinds := [], alts := [], laidByText := true, laidKinds := [.data, .data, .data, .sentinel, .sentinel], laidTests := true, laidLooks := .later }
def TextReadFiltersCardSaid : Prop := Claim7.holds Tryz.pinned (.plain (OpenSpec.ofChange textReadFiltersSpec)) textReadFiltersCard

/-- THE TIED CARD OF 'quaverlaw27.TextLong'. -/
def textLongCard : Claim7 := { stood := { row := textLongRow, standIns := [], harness := (true, "c4495307812bd561e4c4e92fdd34563df287843a7fd299734e38fcaf22277ceb"), looks := true }, kinds := [], alts := [], laidByText := true, laidKinds := [.data, .data, .data, .sentinel, .sentinel], laidTests := true, laidLooks := .later }
def TextLongCardSaid : Prop := Claim7.holds Tryz.pinned (.plain (OpenSpec.ofChange textLongSpec)) textLongCard

/-- THE SECOND FORM's CARD OF 'quaverlaw27.TextReadZpks'. -/
def textReadZpksUptoCard : Claim7 := { stood := { row := textReadZpksUptoRow, standIns := [], harness := (true, "c4495307812bd561e4c4e92fdd34563df287843a7fd299734e38fcaf22277ceb"), looks := true }, kinds := [], alts := [], laidByText := true, laidKinds := [.data, .data, .data, .sentinel, .sentinel], laidTests := true, laidLooks := .later }
def TextReadZpksUptoCardSaid : Prop := Claim7.holds Tryz.pinned (.plain (OpenSpec.upto textReadZpksSpec)) textReadZpksUptoCard

/-- THE SECOND FORM's CARD OF 'quaverlaw27.TextReadFilters'. -/
def textReadFiltersUptoCard : Claim7 := { stood := { row := textReadFiltersUptoRow, standIns := [], harness := (true, "c4495307812bd561e4c4e92fdd34563df287843a7fd299734e38fcaf22277ceb"), looks := true }, kinds := [], alts := [], laidByText := true, laidKinds := [.data, .data, .data, .sentinel, .sentinel], laidTests := true, laidLooks := .later }
def TextReadFiltersUptoCardSaid : Prop := Claim7.holds Tryz.pinned (.plain (OpenSpec.upto textReadFiltersSpec)) textReadFiltersUptoCard

/-- THE SECOND FORM's CARD OF 'quaverlaw27.TextLong'. -/
def textLongUptoCard : Claim7 := { stood := { row := textLongUptoRow, standIns := [], harness := (true, "c4495307812bd561e4c4e92fdd34563df287843a7fd299734e38fcaf22277ceb"), looks := true }, kinds := [], alts := [], laidByText := true, laidKinds := [.data, .data, .data, .sentinel, .sentinel], laidTests := true, laidLooks := .later }
def TextLongUptoCardSaid : Prop := Claim7.holds Tryz.pinned (.plain (OpenSpec.upto textLongSpec)) textLongUptoCard
end Rows
end Go.Proofs.YtbkjmnopljmanaaGreatDoor
