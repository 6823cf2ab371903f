/-
  DERIVED. GIVEN WITH THE SEED: THE CARDS: each row of YtnjemnmhkhkpeaaDoorRows.lean that lists a variable, with what it lists TIED to the program's text (the seventh form; the later family's looks); each row that meets fmt, with fmt's text TOLD by the authors' own Lean function (tested against real Go, not proved from fmt's source: count such statements apart). THE CARD IS WHAT COUNTS. Prove the row's statement (the work); the ties are given (YtnjemnmhkhkpeaaDoorTie.lean); close each card by the builder's one call (the guide's Derived/Test/ToyasCard.lean, 'card_holds'). Laid BY PROGRAM, IN A SANDBOX (cutbox-door.mjs). By AI agents, Wed Nov 11 2026. No macro, syntax, notation, axiom, sorry.
-/
import Derived.Test.YtnjemnmhkhkpeaaDoorRows
import GoSem.ClaimSeven
namespace Go.Proofs.YtnjemnmhkhkpeaaDoor
namespace Rows

/-- THE TIED CARD OF 'palatinelaw12.DnOrder'. -/
def dnOrderCard : Claim7 := { stood := { row := dnOrderRow, standIns := [], harness := (true, "b34d7de005e200cce89807c92f079b493b819235e8ebb2e0c9c502a956785c17"), looks := true }, kinds := [], alts := [], laidByText := true, laidKinds := [.data, .data, .data, .sentinel, .sentinel], laidTests := true, laidLooks := .later }
def DnOrderCardSaid : Prop := Claim7.holds Tryd.pinned (.plain (OpenSpec.ofChange dnOrderSpec)) dnOrderCard

/-- THE TIED CARD OF 'palatinelaw12.DnFolds'. -/
def dnFoldsCard : Claim7 := { stood := { row := dnFoldsRow, standIns := [], harness := (true, "b34d7de005e200cce89807c92f079b493b819235e8ebb2e0c9c502a956785c17"), looks := true }, kinds := [], alts := [], laidByText := true, laidKinds := [.data, .data, .data, .sentinel, .sentinel], laidTests := true, laidLooks := .later }
def DnFoldsCardSaid : Prop := Claim7.holds Tryd.pinned (.plain (OpenSpec.ofChange dnFoldsSpec)) dnFoldsCard

/-- THE SECOND FORM's CARD OF 'palatinelaw12.DnOrder'. -/
def dnOrderUptoCard : Claim7 := { stood := { row := dnOrderUptoRow, standIns := [], harness := (true, "b34d7de005e200cce89807c92f079b493b819235e8ebb2e0c9c502a956785c17"), looks := true }, kinds := [], alts := [], laidByText := true, laidKinds := [.data, .data, .data, .sentinel, .sentinel], laidTests := true, laidLooks := .later }
def DnOrderUptoCardSaid : Prop := Claim7.holds Tryd.pinned (.plain (OpenSpec.upto dnOrderSpec)) dnOrderUptoCard

/-- THE SECOND FORM's CARD OF 'palatinelaw12.DnFolds'. -/
def dnFoldsUptoCard : Claim7 := { stood := { row := dnFoldsUptoRow, standIns := [], harness := (true, "b34d7de005e200cce89807c92f079b493b819235e8ebb2e0c9c502a956785c17"), looks := true }, kinds := [], alts := [], laidByText := true, laidKinds := [.data, .data, .data, .sentinel, .sentinel], laidTests := true, laidLooks := .later }
def DnFoldsUptoCardSaid : Prop := Claim7.holds Tryd.pinned (.plain (OpenSpec.upto dnFoldsSpec)) dnFoldsUptoCard
end Rows
end Go.Proofs.YtnjemnmhkhkpeaaDoor
