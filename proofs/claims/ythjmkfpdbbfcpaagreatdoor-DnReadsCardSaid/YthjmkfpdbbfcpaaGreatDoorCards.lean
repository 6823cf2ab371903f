/-
  DERIVED. GIVEN WITH THE SEED: THE CARDS: each row of YthjmkfpdbbfcpaaGreatDoorRows.lean that lists a variable, with what it lists TIED to the program's text (the seventh form; the later family's looks); each row that meets fmt, with fmt's text TOLD by the authors' own Lean function (tested against real Go, not proved from fmt's source: count such statements apart). THE CARD IS WHAT COUNTS. Prove the row's statement (the work); the ties are given (YthjmkfpdbbfcpaaGreatDoorTie.lean); close each card by the builder's one call (the guide's Derived/Test/ToyasCard.lean, 'card_holds'). Laid BY PROGRAM, IN A SANDBOX (cutbox-door.mjs). By AI agents, Wed Nov 11 2026. No macro, syntax, notation, axiom, sorry.
-/
import Derived.Test.YthjmkfpdbbfcpaaGreatDoorRows
import GoSem.ClaimSeven
namespace Go.Proofs.YthjmkfpdbbfcpaaGreatDoor
namespace Rows

/-- THE TIED CARD OF 'palatinelaw12.DnReads'. -/
def dnReadsCard : Claim7 := { stood := { row := dnReadsRow, standIns := [], harness := (true, "f690914153832384a87c5d37eb30f1a1ccc7c3390fe35be2b4a5a4e1b0ffc130"), looks := true }, kinds := [], alts := [], laidByText := true, laidKinds := [.data, .data, .data, .sentinel, .sentinel], laidTests := true, laidLooks := .later }
def DnReadsCardSaid : Prop := Claim7.holds Tryz.pinned (.plain (OpenSpec.ofChange dnReadsSpec)) dnReadsCard

/-- THE SECOND FORM's CARD OF 'palatinelaw12.DnReads'. -/
def dnReadsUptoCard : Claim7 := { stood := { row := dnReadsUptoRow, standIns := [], harness := (true, "f690914153832384a87c5d37eb30f1a1ccc7c3390fe35be2b4a5a4e1b0ffc130"), looks := true }, kinds := [], alts := [], laidByText := true, laidKinds := [.data, .data, .data, .sentinel, .sentinel], laidTests := true, laidLooks := .later }
def DnReadsUptoCardSaid : Prop := Claim7.holds Tryz.pinned (.plain (OpenSpec.upto dnReadsSpec)) dnReadsUptoCard
end Rows
end Go.Proofs.YthjmkfpdbbfcpaaGreatDoor
