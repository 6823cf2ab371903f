/-
  DERIVED. GIVEN WITH THE SEED: THE CARDS: each row of YtdkkpfeiaaffhaaGreatDoorRows.lean that lists a variable, with what it lists TIED to the program's text (the seventh form; the later family's looks); each row that meets fmt, with fmt's text TOLD by the authors' own Lean function (tested against real Go, not proved from fmt's source: count such statements apart). THE CARD IS WHAT COUNTS. Prove the row's statement (the work); the ties are given (YtdkkpfeiaaffhaaGreatDoorTie.lean); close each card by the builder's one call (the guide's Derived/Test/ToyasCard.lean, 'card_holds'). Laid BY PROGRAM, IN A SANDBOX (cutbox-door.mjs). By AI agents, Wed Nov 11 2026. No macro, syntax, notation, axiom, sorry.
-/
import Derived.Test.YtdkkpfeiaaffhaaGreatDoorRows
import GoSem.ClaimSeven
namespace Go.Proofs.YtdkkpfeiaaffhaaGreatDoor
namespace Rows

/-- THE TIED CARD OF 'palatinelaw13.SchemaValues'. -/
def schemaValuesCard : Claim7 := { stood := { row := schemaValuesRow, standIns := [], harness := (true, "2204e75d2d6c1dd5403fffa119dab1c1751264751def6199cd0ad03efc56c3db"), looks := true }, kinds := [], alts := [], laidByText := true, laidKinds := [.data, .data, .data, .sentinel, .sentinel], laidTests := true, laidLooks := .later }
def SchemaValuesCardSaid : Prop := Claim7.holds Tryz.pinned (.plain (OpenSpec.ofChange schemaValuesSpec)) schemaValuesCard

/-- THE TIED CARD OF 'palatinelaw13.SchemaChecks'. -/
def schemaChecksCard : Claim7 := { stood := { row := schemaChecksRow, standIns := [], harness := (true, "2204e75d2d6c1dd5403fffa119dab1c1751264751def6199cd0ad03efc56c3db"), looks := true }, kinds := [], alts := [], laidByText := true, laidKinds := [.data, .data, .data, .sentinel, .sentinel], laidTests := true, laidLooks := .later }
def SchemaChecksCardSaid : Prop := Claim7.holds Tryz.pinned (.plain (OpenSpec.ofChange schemaChecksSpec)) schemaChecksCard

/-- THE TIED CARD OF 'palatinelaw14.FilterEvals'. -/
def filterEvalsCard : Claim7 := { stood := { row := filterEvalsRow, standIns := [], harness := (true, "2204e75d2d6c1dd5403fffa119dab1c1751264751def6199cd0ad03efc56c3db"), looks := true }, kinds := [], alts := [], laidByText := true, laidKinds := [.data, .data, .data, .data, .sentinel, .sentinel, .pinned], laidTests := true, laidLooks := .later }
def FilterEvalsCardSaid : Prop := Claim7.holds Tryz.pinned (.plain (OpenSpec.ofChange filterEvalsSpec)) filterEvalsCard

/-- THE TIED CARD OF 'palatinelaw14.FilterPrints'. -/
def filterPrintsCard : Claim7 := { stood := { row := filterPrintsRow, standIns := [], harness := (true, "2204e75d2d6c1dd5403fffa119dab1c1751264751def6199cd0ad03efc56c3db"), looks := true }, kinds := [], alts := [], laidByText := true, laidKinds := [.data, .data, .data, .data, .sentinel, .sentinel, .pinned], laidTests := true, laidLooks := .later }
def FilterPrintsCardSaid : Prop := Claim7.holds Tryz.pinned (.plain (OpenSpec.ofChange filterPrintsSpec)) filterPrintsCard

/-- THE TIED CARD OF 'palatinelaw14.FilterNots'. -/
def filterNotsCard : Claim7 := { stood := { row := filterNotsRow, standIns := [], harness := (true, "2204e75d2d6c1dd5403fffa119dab1c1751264751def6199cd0ad03efc56c3db"), looks := true }, kinds := [], alts := [], laidByText := true, laidKinds := [.data, .data, .data, .data, .sentinel, .sentinel, .pinned], laidTests := true, laidLooks := .later }
def FilterNotsCardSaid : Prop := Claim7.holds Tryz.pinned (.plain (OpenSpec.ofChange filterNotsSpec)) filterNotsCard

/-- THE TIED CARD OF 'palatinelaw14.FilterTurned'. -/
def filterTurnedCard : Claim7 := { stood := { row := filterTurnedRow, standIns := [], harness := (true, "2204e75d2d6c1dd5403fffa119dab1c1751264751def6199cd0ad03efc56c3db"), looks := true }, kinds := [], alts := [], laidByText := true, laidKinds := [.data, .data, .data, .data, .sentinel, .sentinel, .pinned], laidTests := true, laidLooks := .later }
def FilterTurnedCardSaid : Prop := Claim7.holds Tryz.pinned (.plain (OpenSpec.ofChange filterTurnedSpec)) filterTurnedCard

/-- THE TIED CARD OF 'palatinelaw14.FilterOwn'. -/
def filterOwnCard : Claim7 := { stood := { row := filterOwnRow, standIns := [], harness := (true, "2204e75d2d6c1dd5403fffa119dab1c1751264751def6199cd0ad03efc56c3db"), looks := true }, kinds := [], alts := [], laidByText := true, laidKinds := [.data, .data, .data, .data, .sentinel, .sentinel, .pinned], laidTests := true, laidLooks := .later }
def FilterOwnCardSaid : Prop := Claim7.holds Tryz.pinned (.plain (OpenSpec.ofChange filterOwnSpec)) filterOwnCard

/-- THE TIED CARD OF 'palatinelaw14.FilterParts'. -/
def filterPartsCard : Claim7 := { stood := { row := filterPartsRow, standIns := [], harness := (true, "2204e75d2d6c1dd5403fffa119dab1c1751264751def6199cd0ad03efc56c3db"), looks := true }, kinds := [], alts := [], laidByText := true, laidKinds := [.data, .data, .data, .data, .sentinel, .sentinel, .pinned], laidTests := true, laidLooks := .later }
def FilterPartsCardSaid : Prop := Claim7.holds Tryz.pinned (.plain (OpenSpec.ofChange filterPartsSpec)) filterPartsCard

/-- THE SECOND FORM's CARD OF 'palatinelaw13.SchemaValues'. -/
def schemaValuesUptoCard : Claim7 := { stood := { row := schemaValuesUptoRow, standIns := [], harness := (true, "2204e75d2d6c1dd5403fffa119dab1c1751264751def6199cd0ad03efc56c3db"), looks := true }, kinds := [], alts := [], laidByText := true, laidKinds := [.data, .data, .data, .sentinel, .sentinel], laidTests := true, laidLooks := .later }
def SchemaValuesUptoCardSaid : Prop := Claim7.holds Tryz.pinned (.plain (OpenSpec.upto schemaValuesSpec)) schemaValuesUptoCard

/-- THE SECOND FORM's CARD OF 'palatinelaw13.SchemaChecks'. -/
def schemaChecksUptoCard : Claim7 := { stood := { row := schemaChecksUptoRow, standIns := [], harness := (true, "2204e75d2d6c1dd5403fffa119dab1c1751264751def6199cd0ad03efc56c3db"), looks := true }, kinds := [], alts := [], laidByText := true, laidKinds := [.data, .data, .data, .sentinel, .sentinel], laidTests := true, laidLooks := .later }
def SchemaChecksUptoCardSaid : Prop := Claim7.holds Tryz.pinned (.plain (OpenSpec.upto schemaChecksSpec)) schemaChecksUptoCard

/-- THE SECOND FORM's CARD OF 'palatinelaw14.FilterEvals'. -/
def filterEvalsUptoCard : Claim7 := { stood := { row := filterEvalsUptoRow, standIns := [], harness := (true, "2204e75d2d6c1dd5403fffa119dab1c1751264751def6199cd0ad03efc56c3db"), looks := true }, kinds := [], alts := [], laidByText := true, laidKinds := [.data, .data, .data, .data, .sentinel, .sentinel, .pinned], laidTests := true, laidLooks := .later }
def FilterEvalsUptoCardSaid : Prop := Claim7.holds Tryz.pinned (.plain (OpenSpec.upto filterEvalsSpec)) filterEvalsUptoCard

/-- THE SECOND FORM's CARD OF 'palatinelaw14.FilterPrints'. -/
def filterPrintsUptoCard : Claim7 := { stood := { row := filterPrintsUptoRow, standIns := [], harness := (true, "2204e75d2d6c1dd5403fffa119dab1c1751264751def6199cd0ad03efc56c3db"), looks := true }, kinds := [], alts := [], laidByText := true, laidKinds := [.data, .data, .data, .data, .sentinel, .sentinel, .pinned], laidTests := true, laidLooks := .later }
def FilterPrintsUptoCardSaid : Prop := Claim7.holds Tryz.pinned (.plain (OpenSpec.upto filterPrintsSpec)) filterPrintsUptoCard

/-- THE SECOND FORM's CARD OF 'palatinelaw14.FilterNots'. -/
def filterNotsUptoCard : Claim7 := { stood := { row := filterNotsUptoRow, standIns := [], harness := (true, "2204e75d2d6c1dd5403fffa119dab1c1751264751def6199cd0ad03efc56c3db"), looks := true }, kinds := [], alts := [], laidByText := true, laidKinds := [.data, .data, .data, .data, .sentinel, .sentinel, .pinned], laidTests := true, laidLooks := .later }
def FilterNotsUptoCardSaid : Prop := Claim7.holds Tryz.pinned (.plain (OpenSpec.upto filterNotsSpec)) filterNotsUptoCard

/-- THE SECOND FORM's CARD OF 'palatinelaw14.FilterTurned'. -/
def filterTurnedUptoCard : Claim7 := { stood := { row := filterTurnedUptoRow, standIns := [], harness := (true, "2204e75d2d6c1dd5403fffa119dab1c1751264751def6199cd0ad03efc56c3db"), looks := true }, kinds := [], alts := [], laidByText := true, laidKinds := [.data, .data, .data, .data, .sentinel, .sentinel, .pinned], laidTests := true, laidLooks := .later }
def FilterTurnedUptoCardSaid : Prop := Claim7.holds Tryz.pinned (.plain (OpenSpec.upto filterTurnedSpec)) filterTurnedUptoCard

/-- THE SECOND FORM's CARD OF 'palatinelaw14.FilterOwn'. -/
def filterOwnUptoCard : Claim7 := { stood := { row := filterOwnUptoRow, standIns := [], harness := (true, "2204e75d2d6c1dd5403fffa119dab1c1751264751def6199cd0ad03efc56c3db"), looks := true }, kinds := [], alts := [], laidByText := true, laidKinds := [.data, .data, .data, .data, .sentinel, .sentinel, .pinned], laidTests := true, laidLooks := .later }
def FilterOwnUptoCardSaid : Prop := Claim7.holds Tryz.pinned (.plain (OpenSpec.upto filterOwnSpec)) filterOwnUptoCard

/-- THE SECOND FORM's CARD OF 'palatinelaw14.FilterParts'. -/
def filterPartsUptoCard : Claim7 := { stood := { row := filterPartsUptoRow, standIns := [], harness := (true, "2204e75d2d6c1dd5403fffa119dab1c1751264751def6199cd0ad03efc56c3db"), looks := true }, kinds := [], alts := [], laidByText := true, laidKinds := [.data, .data, .data, .data, .sentinel, .sentinel, .pinned], laidTests := true, laidLooks := .later }
def FilterPartsUptoCardSaid : Prop := Claim7.holds Tryz.pinned (.plain (OpenSpec.upto filterPartsSpec)) filterPartsUptoCard
end Rows
end Go.Proofs.YtdkkpfeiaaffhaaGreatDoor
