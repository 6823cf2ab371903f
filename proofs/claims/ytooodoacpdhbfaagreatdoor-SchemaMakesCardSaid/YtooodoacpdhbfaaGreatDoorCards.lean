/-
  DERIVED. GIVEN WITH THE SEED: THE CARDS: each row of YtooodoacpdhbfaaGreatDoorRows.lean that lists a variable, with what it lists TIED to the program's text (the seventh form; the later family's looks); each row that meets fmt, with fmt's text TOLD by the authors' own Lean function (tested against real Go, not proved from fmt's source: count such statements apart). THE CARD IS WHAT COUNTS. Prove the row's statement (the work); the ties are given (YtooodoacpdhbfaaGreatDoorTie.lean); close each card by the builder's one call (the guide's Derived/Test/ToyasCard.lean, 'card_holds'). Laid BY PROGRAM, IN A SANDBOX (cutbox-door.mjs). By AI agents, Wed Nov 11 2026. No macro, syntax, notation, axiom, sorry.
-/
import Derived.Test.YtooodoacpdhbfaaGreatDoorRows
import GoSem.ClaimSeven
namespace Go.Proofs.YtooodoacpdhbfaaGreatDoor
namespace Rows

/-- THE TIED CARD OF 'palatinelaw12.DnReads'. -/
def dnReadsCard : Claim7 := { stood := { row := dnReadsRow, standIns := [], harness := (true, "625f4b3ff113d5e527cbb1efcfae81ba77817460768949b1154476db0cff5fda"), looks := true }, kinds := [], alts := [], laidByText := true, laidKinds := [.data, .data, .data, .sentinel, .sentinel], laidTests := true, laidLooks := .later }
def DnReadsCardSaid : Prop := Claim7.holds Tryz.pinned (.plain (OpenSpec.ofChange dnReadsSpec)) dnReadsCard

/-- THE TIED CARD OF 'palatinelaw13.SchemaMakes'. -/
def schemaMakesCard : Claim7 := { stood := { row := schemaMakesRow, standIns := [], harness := (true, "625f4b3ff113d5e527cbb1efcfae81ba77817460768949b1154476db0cff5fda"), looks := true }, kinds := [], alts := [], laidByText := true, laidKinds := [.data, .data, .data, .sentinel, .sentinel], laidTests := true, laidLooks := .later }
def SchemaMakesCardSaid : Prop := Claim7.holds Tryz.pinned (.plain (OpenSpec.ofChange schemaMakesSpec)) schemaMakesCard

/-- THE TIED CARD OF 'palatinelaw13.SchemaValues'. -/
def schemaValuesCard : Claim7 := { stood := { row := schemaValuesRow, standIns := [], harness := (true, "625f4b3ff113d5e527cbb1efcfae81ba77817460768949b1154476db0cff5fda"), looks := true }, kinds := [], alts := [], laidByText := true, laidKinds := [.data, .data, .data, .sentinel, .sentinel], laidTests := true, laidLooks := .later }
def SchemaValuesCardSaid : Prop := Claim7.holds Tryz.pinned (.plain (OpenSpec.ofChange schemaValuesSpec)) schemaValuesCard

/-- THE TIED CARD OF 'palatinelaw13.SchemaChecks'. -/
def schemaChecksCard : Claim7 := { stood := { row := schemaChecksRow, standIns := [], harness := (true, "625f4b3ff113d5e527cbb1efcfae81ba77817460768949b1154476db0cff5fda"), looks := true }, kinds := [], alts := [], laidByText := true, laidKinds := [.data, .data, .data, .sentinel, .sentinel], laidTests := true, laidLooks := .later }
def SchemaChecksCardSaid : Prop := Claim7.holds Tryz.pinned (.plain (OpenSpec.ofChange schemaChecksSpec)) schemaChecksCard

/-- THE TIED CARD OF 'palatinelaw13.SchemaOrder'. -/
def schemaOrderCard : Claim7 := { stood := { row := schemaOrderRow, standIns := [], harness := (true, "625f4b3ff113d5e527cbb1efcfae81ba77817460768949b1154476db0cff5fda"), looks := true }, kinds := [], alts := [], laidByText := true, laidKinds := [.data, .data, .data, .sentinel, .sentinel], laidTests := true, laidLooks := .later }
def SchemaOrderCardSaid : Prop := Claim7.holds Tryz.pinned (.plain (OpenSpec.ofChange schemaOrderSpec)) schemaOrderCard

/-- THE TIED CARD OF 'palatinelaw13.SchemaLetters'. -/
def schemaLettersCard : Claim7 := { stood := { row := schemaLettersRow, standIns := [], harness := (true, "625f4b3ff113d5e527cbb1efcfae81ba77817460768949b1154476db0cff5fda"), looks := true }, kinds := [], alts := [], laidByText := true, laidKinds := [.data, .data, .data, .sentinel, .sentinel], laidTests := true, laidLooks := .later }
def SchemaLettersCardSaid : Prop := Claim7.holds Tryz.pinned (.plain (OpenSpec.ofChange schemaLettersSpec)) schemaLettersCard

/-- THE TIED CARD OF 'palatinelaw13.SchemaOpen'. -/
def schemaOpenCard : Claim7 := { stood := { row := schemaOpenRow, standIns := [], harness := (true, "625f4b3ff113d5e527cbb1efcfae81ba77817460768949b1154476db0cff5fda"), looks := true }, kinds := [], alts := [], laidByText := true, laidKinds := [.data, .data, .data, .sentinel, .sentinel], laidTests := true, laidLooks := .later }
def SchemaOpenCardSaid : Prop := Claim7.holds Tryz.pinned (.plain (OpenSpec.ofChange schemaOpenSpec)) schemaOpenCard

/-- THE SECOND FORM's CARD OF 'palatinelaw12.DnReads'. -/
def dnReadsUptoCard : Claim7 := { stood := { row := dnReadsUptoRow, standIns := [], harness := (true, "625f4b3ff113d5e527cbb1efcfae81ba77817460768949b1154476db0cff5fda"), looks := true }, kinds := [], alts := [], laidByText := true, laidKinds := [.data, .data, .data, .sentinel, .sentinel], laidTests := true, laidLooks := .later }
def DnReadsUptoCardSaid : Prop := Claim7.holds Tryz.pinned (.plain (OpenSpec.upto dnReadsSpec)) dnReadsUptoCard

/-- THE SECOND FORM's CARD OF 'palatinelaw13.SchemaMakes'. -/
def schemaMakesUptoCard : Claim7 := { stood := { row := schemaMakesUptoRow, standIns := [], harness := (true, "625f4b3ff113d5e527cbb1efcfae81ba77817460768949b1154476db0cff5fda"), looks := true }, kinds := [], alts := [], laidByText := true, laidKinds := [.data, .data, .data, .sentinel, .sentinel], laidTests := true, laidLooks := .later }
def SchemaMakesUptoCardSaid : Prop := Claim7.holds Tryz.pinned (.plain (OpenSpec.upto schemaMakesSpec)) schemaMakesUptoCard

/-- THE SECOND FORM's CARD OF 'palatinelaw13.SchemaValues'. -/
def schemaValuesUptoCard : Claim7 := { stood := { row := schemaValuesUptoRow, standIns := [], harness := (true, "625f4b3ff113d5e527cbb1efcfae81ba77817460768949b1154476db0cff5fda"), looks := true }, kinds := [], alts := [], laidByText := true, laidKinds := [.data, .data, .data, .sentinel, .sentinel], laidTests := true, laidLooks := .later }
def SchemaValuesUptoCardSaid : Prop := Claim7.holds Tryz.pinned (.plain (OpenSpec.upto schemaValuesSpec)) schemaValuesUptoCard

/-- THE SECOND FORM's CARD OF 'palatinelaw13.SchemaChecks'. -/
def schemaChecksUptoCard : Claim7 := { stood := { row := schemaChecksUptoRow, standIns := [], harness := (true, "625f4b3ff113d5e527cbb1efcfae81ba77817460768949b1154476db0cff5fda"), looks := true }, kinds := [], alts := [], laidByText := true, laidKinds := [.data, .data, .data, .sentinel, .sentinel], laidTests := true, laidLooks := .later }
def SchemaChecksUptoCardSaid : Prop := Claim7.holds Tryz.pinned (.plain (OpenSpec.upto schemaChecksSpec)) schemaChecksUptoCard

/-- THE SECOND FORM's CARD OF 'palatinelaw13.SchemaOrder'. -/
def schemaOrderUptoCard : Claim7 := { stood := { row := schemaOrderUptoRow, standIns := [], harness := (true, "625f4b3ff113d5e527cbb1efcfae81ba77817460768949b1154476db0cff5fda"), looks := true }, kinds := [], alts := [], laidByText := true, laidKinds := [.data, .data, .data, .sentinel, .sentinel], laidTests := true, laidLooks := .later }
def SchemaOrderUptoCardSaid : Prop := Claim7.holds Tryz.pinned (.plain (OpenSpec.upto schemaOrderSpec)) schemaOrderUptoCard

/-- THE SECOND FORM's CARD OF 'palatinelaw13.SchemaLetters'. -/
def schemaLettersUptoCard : Claim7 := { stood := { row := schemaLettersUptoRow, standIns := [], harness := (true, "625f4b3ff113d5e527cbb1efcfae81ba77817460768949b1154476db0cff5fda"), looks := true }, kinds := [], alts := [], laidByText := true, laidKinds := [.data, .data, .data, .sentinel, .sentinel], laidTests := true, laidLooks := .later }
def SchemaLettersUptoCardSaid : Prop := Claim7.holds Tryz.pinned (.plain (OpenSpec.upto schemaLettersSpec)) schemaLettersUptoCard

/-- THE SECOND FORM's CARD OF 'palatinelaw13.SchemaOpen'. -/
def schemaOpenUptoCard : Claim7 := { stood := { row := schemaOpenUptoRow, standIns := [], harness := (true, "625f4b3ff113d5e527cbb1efcfae81ba77817460768949b1154476db0cff5fda"), looks := true }, kinds := [], alts := [], laidByText := true, laidKinds := [.data, .data, .data, .sentinel, .sentinel], laidTests := true, laidLooks := .later }
def SchemaOpenUptoCardSaid : Prop := Claim7.holds Tryz.pinned (.plain (OpenSpec.upto schemaOpenSpec)) schemaOpenUptoCard
end Rows
end Go.Proofs.YtooodoacpdhbfaaGreatDoor
