/-
  DERIVED. GIVEN WITH THE SEED: THE CARDS: each row of YtgbiicipkbpmeaaGreatDoorRows.lean that lists a variable, with what it lists TIED to the program's text (the seventh form; the later family's looks); each row that meets fmt, with fmt's text TOLD by the authors' own Lean function (tested against real Go, not proved from fmt's source: count such statements apart). THE CARD IS WHAT COUNTS. Prove the row's statement (the work); the ties are given (YtgbiicipkbpmeaaGreatDoorTie.lean); close each card by the builder's one call (the guide's Derived/Test/ToyasCard.lean, 'card_holds'). Laid BY PROGRAM, IN A SANDBOX (cutbox-door.mjs). By AI agents, Wed Nov 11 2026. No macro, syntax, notation, axiom, sorry.
-/
import Derived.Test.YtgbiicipkbpmeaaGreatDoorRows
import GoSem.ClaimSeven
namespace Go.Proofs.YtgbiicipkbpmeaaGreatDoor
namespace Rows

/-- THE TIED CARD OF 'palatinelaw13.SchemaChecks'. -/
def schemaChecksCard : Claim7 := { stood := { row := schemaChecksRow, standIns := [], harness := (true, "4638552bbfe9f7bb7c9b0bcd15cdcc031e15894af5185d0d05aa72598184ac0e"), looks := true }, kinds := [], alts := [], laidByText := true, laidKinds := [.data, .data, .data, .sentinel, .sentinel], laidTests := true, laidLooks := .later }
def SchemaChecksCardSaid : Prop := Claim7.holds Tryz.pinned (.plain (OpenSpec.ofChange schemaChecksSpec)) schemaChecksCard

/-- THE TIED CARD OF 'palatinelaw14.FilterEvals'. -/
def filterEvalsCard : Claim7 := { stood := { row := filterEvalsRow, standIns := [], harness := (true, "4638552bbfe9f7bb7c9b0bcd15cdcc031e15894af5185d0d05aa72598184ac0e"), looks := true }, kinds := [], alts := [], laidByText := true, laidKinds := [.data, .data, .data, .data, .sentinel, .sentinel, .pinned], laidTests := true, laidLooks := .later }
def FilterEvalsCardSaid : Prop := Claim7.holds Tryz.pinned (.plain (OpenSpec.ofChange filterEvalsSpec)) filterEvalsCard

/-- THE SECOND FORM's CARD OF 'palatinelaw13.SchemaChecks'. -/
def schemaChecksUptoCard : Claim7 := { stood := { row := schemaChecksUptoRow, standIns := [], harness := (true, "4638552bbfe9f7bb7c9b0bcd15cdcc031e15894af5185d0d05aa72598184ac0e"), looks := true }, kinds := [], alts := [], laidByText := true, laidKinds := [.data, .data, .data, .sentinel, .sentinel], laidTests := true, laidLooks := .later }
def SchemaChecksUptoCardSaid : Prop := Claim7.holds Tryz.pinned (.plain (OpenSpec.upto schemaChecksSpec)) schemaChecksUptoCard

/-- THE SECOND FORM's CARD OF 'palatinelaw14.FilterEvals'. -/
def filterEvalsUptoCard : Claim7 := { stood := { row := filterEvalsUptoRow, standIns := [], harness := (true, "4638552bbfe9f7bb7c9b0bcd15cdcc031e15894af5185d0d05aa72598184ac0e"), looks := true }, kinds := [], alts := [], laidByText := true, laidKinds := [.data, .data, .data, .data, .sentinel, .sentinel, .pinned], laidTests := true, laidLooks := .later }
def FilterEvalsUptoCardSaid : Prop := Claim7.holds Tryz.pinned (.plain (OpenSpec.upto filterEvalsSpec)) filterEvalsUptoCard
end Rows
end Go.Proofs.YtgbiicipkbpmeaaGreatDoor
