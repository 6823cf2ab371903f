/-
  No cell of these rows narrows 'for every input' (looked for: loops, veiled, ifaces, maps, wideKeys, modest, calm, conditions, laid).
  DERIVED. THE GIVEN ROWS OF THIS SEAT. 7 by the template 'for every input the law returns true; each argument reads behind the call as it read before'; 0 by the template 'total and deterministic' (their statements: YtmcminejnknliaaTotals.lean).
  GIVEN WITH THE SEED: the statements are not yours to turn. If you find one false, say at which input.
  Laid BY PROGRAM, IN A SANDBOX (cutbox-rows.mjs): the forced cells as the released guide's own fill.sh prints them over the translation 51d5f77a3025e6ae… (all of the seat's roots in one cut). By AI agents, Wed Nov 11 2026. No macro, syntax, notation, axiom, sorry.
-/
import Derived.Test.YtmcminejnknliaaChecked
import GoSem.Claim
import GoSem.ClaimJoined
import GoSem.ClaimMapViews
import Derived.JoinedTies
import Derived.KernelRfl
namespace Go.Proofs.Ytmcminejnknliaa
/- THE CELL 'sum', in the pinned program and in every row, IS THE sha256 OF THE DUMP (.gsa) THAT YtmcminejnknliaaProg.lean LOADS. Nothing in Lean hashes anything: it is a label: what it is worth is what the hold of that sum in a sandbox is worth. -/
noncomputable def Try.pinned : Pinned := { name := "ytmcminejnknliaa", sum := "51d5f77a3025e6ae7d5a10e6f07cb9017e0031f313ce6f22c230cb239d5c4715", checked := Try.checked }
namespace Rows
def none {H : Type} : Left H := { results := [], args := [] }

/-- 'palatinelaw04.TreePlays': WHATEVER THE INPUT: true; the input reads as it did. -/
def treePlaysSpec : ChangeSpec := { name := "treePlays", fn := fun _ => fun
  | [d1, d2] => { results := [.lit (.bool true)], args := [d1, d2] }
  | _ => none }
def treePlaysRow : OpenClaim := { program := "ytmcminejnknliaa", sum := "51d5f77a3025e6ae7d5a10e6f07cb9017e0031f313ce6f22c230cb239d5c4715", func := "palatine/palatinelaw04.TreePlays", spec := "treePlays", inPlace := ["slices.overlaps[string]", "slices.overlaps[palatine/tree.part]"], unfollowed := true, recurses := true, apart := false }
def TreePlaysSaid : Prop := treePlaysRow.holds Try.pinned (OpenSpec.ofChange treePlaysSpec)

/-- ITS FALSE NEIGHBOUR: 'it returns false'. Refute it at one input. -/
def treePlaysWrong : ChangeSpec := { name := "treePlays", fn := fun _ => fun
  | [d1, d2] => { results := [.lit (.bool false)], args := [d1, d2] }
  | _ => none }
def TreePlaysWrongFalsely : Prop := treePlaysRow.holds Try.pinned (OpenSpec.ofChange treePlaysWrong)

/-- 'palatinelaw04.TreeOrder': WHATEVER THE INPUT: true; the input reads as it did. -/
def treeOrderSpec : ChangeSpec := { name := "treeOrder", fn := fun _ => fun
  | [d] => { results := [.lit (.bool true)], args := [d] }
  | _ => none }
def treeOrderRow : OpenClaim := { program := "ytmcminejnknliaa", sum := "51d5f77a3025e6ae7d5a10e6f07cb9017e0031f313ce6f22c230cb239d5c4715", func := "palatine/palatinelaw04.TreeOrder", spec := "treeOrder", inPlace := ["slices.overlaps[string]", "slices.overlaps[palatine/tree.part]"], unfollowed := true, recurses := true, apart := false }
def TreeOrderSaid : Prop := treeOrderRow.holds Try.pinned (OpenSpec.ofChange treeOrderSpec)

/-- ITS FALSE NEIGHBOUR: 'it returns false'. Refute it at one input. -/
def treeOrderWrong : ChangeSpec := { name := "treeOrder", fn := fun _ => fun
  | [d] => { results := [.lit (.bool false)], args := [d] }
  | _ => none }
def TreeOrderWrongFalsely : Prop := treeOrderRow.holds Try.pinned (OpenSpec.ofChange treeOrderWrong)

/-- 'palatinelaw04.TreeTurned': WHATEVER THE INPUT: true; the input reads as it did. -/
def treeTurnedSpec : ChangeSpec := { name := "treeTurned", fn := fun _ => fun
  | [d] => { results := [.lit (.bool true)], args := [d] }
  | _ => none }
def treeTurnedRow : OpenClaim := { program := "ytmcminejnknliaa", sum := "51d5f77a3025e6ae7d5a10e6f07cb9017e0031f313ce6f22c230cb239d5c4715", func := "palatine/palatinelaw04.TreeTurned", spec := "treeTurned", inPlace := ["slices.overlaps[string]", "slices.overlaps[palatine/tree.part]"], unfollowed := true, recurses := true, apart := false }
def TreeTurnedSaid : Prop := treeTurnedRow.holds Try.pinned (OpenSpec.ofChange treeTurnedSpec)

/-- ITS FALSE NEIGHBOUR: 'it returns false'. Refute it at one input. -/
def treeTurnedWrong : ChangeSpec := { name := "treeTurned", fn := fun _ => fun
  | [d] => { results := [.lit (.bool false)], args := [d] }
  | _ => none }
def TreeTurnedWrongFalsely : Prop := treeTurnedRow.holds Try.pinned (OpenSpec.ofChange treeTurnedWrong)

/-- 'palatinelaw04.TreeUndo': WHATEVER THE INPUT: true; the input reads as it did. -/
def treeUndoSpec : ChangeSpec := { name := "treeUndo", fn := fun _ => fun
  | [d1, d2, d3] => { results := [.lit (.bool true)], args := [d1, d2, d3] }
  | _ => none }
def treeUndoRow : OpenClaim := { program := "ytmcminejnknliaa", sum := "51d5f77a3025e6ae7d5a10e6f07cb9017e0031f313ce6f22c230cb239d5c4715", func := "palatine/palatinelaw04.TreeUndo", spec := "treeUndo", inPlace := ["slices.overlaps[string]", "slices.overlaps[palatine/tree.part]"], unfollowed := true, recurses := true, apart := false }
def TreeUndoSaid : Prop := treeUndoRow.holds Try.pinned (OpenSpec.ofChange treeUndoSpec)

/-- ITS FALSE NEIGHBOUR: 'it returns false'. Refute it at one input. -/
def treeUndoWrong : ChangeSpec := { name := "treeUndo", fn := fun _ => fun
  | [d1, d2, d3] => { results := [.lit (.bool false)], args := [d1, d2, d3] }
  | _ => none }
def TreeUndoWrongFalsely : Prop := treeUndoRow.holds Try.pinned (OpenSpec.ofChange treeUndoWrong)

/-- 'palatinelaw04.TreeCuts': WHATEVER THE INPUT: true; the input reads as it did. -/
def treeCutsSpec : ChangeSpec := { name := "treeCuts", fn := fun _ => fun
  | [d1, d2] => { results := [.lit (.bool true)], args := [d1, d2] }
  | _ => none }
def treeCutsRow : OpenClaim := { program := "ytmcminejnknliaa", sum := "51d5f77a3025e6ae7d5a10e6f07cb9017e0031f313ce6f22c230cb239d5c4715", func := "palatine/palatinelaw04.TreeCuts", spec := "treeCuts", inPlace := ["slices.overlaps[string]", "slices.overlaps[palatine/tree.part]"], unfollowed := true, recurses := true, apart := false }
def TreeCutsSaid : Prop := treeCutsRow.holds Try.pinned (OpenSpec.ofChange treeCutsSpec)

/-- ITS FALSE NEIGHBOUR: 'it returns false'. Refute it at one input. -/
def treeCutsWrong : ChangeSpec := { name := "treeCuts", fn := fun _ => fun
  | [d1, d2] => { results := [.lit (.bool false)], args := [d1, d2] }
  | _ => none }
def TreeCutsWrongFalsely : Prop := treeCutsRow.holds Try.pinned (OpenSpec.ofChange treeCutsWrong)

/-- 'palatinelaw04.TreeApart': WHATEVER THE INPUT: true; the input reads as it did. -/
def treeApartSpec : ChangeSpec := { name := "treeApart", fn := fun _ => fun
  | [d1, d2, d3] => { results := [.lit (.bool true)], args := [d1, d2, d3] }
  | _ => none }
def treeApartRow : OpenClaim := { program := "ytmcminejnknliaa", sum := "51d5f77a3025e6ae7d5a10e6f07cb9017e0031f313ce6f22c230cb239d5c4715", func := "palatine/palatinelaw04.TreeApart", spec := "treeApart", inPlace := ["slices.overlaps[string]", "slices.overlaps[palatine/tree.part]"], unfollowed := true, recurses := true, apart := false }
def TreeApartSaid : Prop := treeApartRow.holds Try.pinned (OpenSpec.ofChange treeApartSpec)

/-- ITS FALSE NEIGHBOUR: 'it returns false'. Refute it at one input. -/
def treeApartWrong : ChangeSpec := { name := "treeApart", fn := fun _ => fun
  | [d1, d2, d3] => { results := [.lit (.bool false)], args := [d1, d2, d3] }
  | _ => none }
def TreeApartWrongFalsely : Prop := treeApartRow.holds Try.pinned (OpenSpec.ofChange treeApartWrong)

/-- 'palatinelaw04.TreeLen': WHATEVER THE INPUT: true; the input reads as it did. -/
def treeLenSpec : ChangeSpec := { name := "treeLen", fn := fun _ => fun
  | [d1, d2] => { results := [.lit (.bool true)], args := [d1, d2] }
  | _ => none }
def treeLenRow : OpenClaim := { program := "ytmcminejnknliaa", sum := "51d5f77a3025e6ae7d5a10e6f07cb9017e0031f313ce6f22c230cb239d5c4715", func := "palatine/palatinelaw04.TreeLen", spec := "treeLen", inPlace := ["slices.overlaps[string]", "slices.overlaps[palatine/tree.part]"], unfollowed := true, recurses := true, apart := false }
def TreeLenSaid : Prop := treeLenRow.holds Try.pinned (OpenSpec.ofChange treeLenSpec)

/-- ITS FALSE NEIGHBOUR: 'it returns false'. Refute it at one input. -/
def treeLenWrong : ChangeSpec := { name := "treeLen", fn := fun _ => fun
  | [d1, d2] => { results := [.lit (.bool false)], args := [d1, d2] }
  | _ => none }
def TreeLenWrongFalsely : Prop := treeLenRow.holds Try.pinned (OpenSpec.ofChange treeLenWrong)

/- THE SECOND FORM. 'bulk': how many values and letters a reading holds, each counted each time it is reached (what is shared counts as often as it is met; a slice's spare places count too). A statement '..UptoSaid' is the law's where the arguments, and the package variables that the reading takes, are together of bulk at most 1048576: NARROWER than '..Said'. Prove '..Said' where nothing that the law and all that it calls make is longer than what came in: it says more and counts as full. Else prove '..UptoSaid'. A law counts once. -/
mutual
def uptoBulk {H : Type} : DataW H → Nat
  | .lit (.string bytes) => bytes.length + 1
  | .lit _ => 1
  | .nil => 1
  | .ptr d => uptoBulk d + 1
  | .slice elems spare => uptoBulkAll elems + uptoBulkAll spare + 1
  | .agg parts => uptoBulkAll parts + 1
  | .iface _ d => uptoBulk d + 1
  | .map entries => uptoBulkEntries entries + 1
  | .held _ => 1
def uptoBulkAll {H : Type} : List (DataW H) → Nat
  | [] => 0
  | d :: r => uptoBulk d + uptoBulkAll r
def uptoBulkEntries {H : Type} : List (Lit × DataW H) → Nat
  | [] => 0
  | x :: r => uptoBulkEntry x + uptoBulkEntries r
def uptoBulkEntry {H : Type} : Lit × DataW H → Nat
  | (.string bytes, d) => bytes.length + uptoBulk d + 1
  | (_, d) => uptoBulk d + 1
 end
def uptoSmall : (H : Type) → List (DataW H) → Bool := fun _ ds => decide (uptoBulkAll ds ≤ 1048576)
def OpenSpec.upto (s : _root_.Go.ChangeSpec) : _root_.Go.OpenSpec := { _root_.Go.OpenSpec.ofChange s with cond := some uptoSmall }

/-- 'palatinelaw04.TreePlays', WHERE WHAT IT READS IS OF BULK AT MOST 1048576: true; the input reads as it did. -/
def treePlaysUptoRow : OpenClaim := { program := "ytmcminejnknliaa", sum := "51d5f77a3025e6ae7d5a10e6f07cb9017e0031f313ce6f22c230cb239d5c4715", func := "palatine/palatinelaw04.TreePlays", spec := "treePlays", inPlace := ["slices.overlaps[string]", "slices.overlaps[palatine/tree.part]"], unfollowed := true, recurses := true, apart := false, narrowed := true }
def TreePlaysUptoSaid : Prop := treePlaysUptoRow.holds Try.pinned (OpenSpec.upto treePlaysSpec)

/-- 'palatinelaw04.TreeOrder', WHERE WHAT IT READS IS OF BULK AT MOST 1048576: true; the input reads as it did. -/
def treeOrderUptoRow : OpenClaim := { program := "ytmcminejnknliaa", sum := "51d5f77a3025e6ae7d5a10e6f07cb9017e0031f313ce6f22c230cb239d5c4715", func := "palatine/palatinelaw04.TreeOrder", spec := "treeOrder", inPlace := ["slices.overlaps[string]", "slices.overlaps[palatine/tree.part]"], unfollowed := true, recurses := true, apart := false, narrowed := true }
def TreeOrderUptoSaid : Prop := treeOrderUptoRow.holds Try.pinned (OpenSpec.upto treeOrderSpec)

/-- 'palatinelaw04.TreeTurned', WHERE WHAT IT READS IS OF BULK AT MOST 1048576: true; the input reads as it did. -/
def treeTurnedUptoRow : OpenClaim := { program := "ytmcminejnknliaa", sum := "51d5f77a3025e6ae7d5a10e6f07cb9017e0031f313ce6f22c230cb239d5c4715", func := "palatine/palatinelaw04.TreeTurned", spec := "treeTurned", inPlace := ["slices.overlaps[string]", "slices.overlaps[palatine/tree.part]"], unfollowed := true, recurses := true, apart := false, narrowed := true }
def TreeTurnedUptoSaid : Prop := treeTurnedUptoRow.holds Try.pinned (OpenSpec.upto treeTurnedSpec)

/-- 'palatinelaw04.TreeUndo', WHERE WHAT IT READS IS OF BULK AT MOST 1048576: true; the input reads as it did. -/
def treeUndoUptoRow : OpenClaim := { program := "ytmcminejnknliaa", sum := "51d5f77a3025e6ae7d5a10e6f07cb9017e0031f313ce6f22c230cb239d5c4715", func := "palatine/palatinelaw04.TreeUndo", spec := "treeUndo", inPlace := ["slices.overlaps[string]", "slices.overlaps[palatine/tree.part]"], unfollowed := true, recurses := true, apart := false, narrowed := true }
def TreeUndoUptoSaid : Prop := treeUndoUptoRow.holds Try.pinned (OpenSpec.upto treeUndoSpec)

/-- 'palatinelaw04.TreeCuts', WHERE WHAT IT READS IS OF BULK AT MOST 1048576: true; the input reads as it did. -/
def treeCutsUptoRow : OpenClaim := { program := "ytmcminejnknliaa", sum := "51d5f77a3025e6ae7d5a10e6f07cb9017e0031f313ce6f22c230cb239d5c4715", func := "palatine/palatinelaw04.TreeCuts", spec := "treeCuts", inPlace := ["slices.overlaps[string]", "slices.overlaps[palatine/tree.part]"], unfollowed := true, recurses := true, apart := false, narrowed := true }
def TreeCutsUptoSaid : Prop := treeCutsUptoRow.holds Try.pinned (OpenSpec.upto treeCutsSpec)

/-- 'palatinelaw04.TreeApart', WHERE WHAT IT READS IS OF BULK AT MOST 1048576: true; the input reads as it did. -/
def treeApartUptoRow : OpenClaim := { program := "ytmcminejnknliaa", sum := "51d5f77a3025e6ae7d5a10e6f07cb9017e0031f313ce6f22c230cb239d5c4715", func := "palatine/palatinelaw04.TreeApart", spec := "treeApart", inPlace := ["slices.overlaps[string]", "slices.overlaps[palatine/tree.part]"], unfollowed := true, recurses := true, apart := false, narrowed := true }
def TreeApartUptoSaid : Prop := treeApartUptoRow.holds Try.pinned (OpenSpec.upto treeApartSpec)

/-- 'palatinelaw04.TreeLen', WHERE WHAT IT READS IS OF BULK AT MOST 1048576: true; the input reads as it did. -/
def treeLenUptoRow : OpenClaim := { program := "ytmcminejnknliaa", sum := "51d5f77a3025e6ae7d5a10e6f07cb9017e0031f313ce6f22c230cb239d5c4715", func := "palatine/palatinelaw04.TreeLen", spec := "treeLen", inPlace := ["slices.overlaps[string]", "slices.overlaps[palatine/tree.part]"], unfollowed := true, recurses := true, apart := false, narrowed := true }
def TreeLenUptoSaid : Prop := treeLenUptoRow.holds Try.pinned (OpenSpec.upto treeLenSpec)

end Rows
end Go.Proofs.Ytmcminejnknliaa
