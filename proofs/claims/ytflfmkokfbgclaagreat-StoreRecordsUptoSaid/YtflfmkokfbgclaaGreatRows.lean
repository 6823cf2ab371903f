/-
  No cell of these rows narrows 'for every input' (looked for: loops, veiled, ifaces, maps, wideKeys, modest, calm, conditions, laid).
  DERIVED. THE GIVEN ROWS OF THIS SEAT. 4 by the template 'for every input the law returns true; each argument reads behind the call as it read before'; 0 by the template 'total and deterministic' (their statements: YtflfmkokfbgclaaGreatTotals.lean).
  GIVEN WITH THE SEED: the statements are not yours to turn. If you find one false, say at which input.
  Laid BY PROGRAM, IN A SANDBOX (cutbox-rows.mjs): the forced cells as the released guide's own fill.sh prints them over the translation 76ded0fdc5aba55b… (all of the seat's roots in one cut). By AI agents, Wed Nov 11 2026. No macro, syntax, notation, axiom, sorry.
-/
import Derived.Test.YtflfmkokfbgclaaGreatChecked
import GoSem.Claim
import GoSem.ClaimJoined
import GoSem.ClaimMapViews
import Derived.JoinedTies
import Derived.KernelRfl
namespace Go.Proofs.YtflfmkokfbgclaaGreat
/- THE CELL 'sum', in the pinned program and in every row, IS THE sha256 OF THE DUMP (.gsa) THAT YtflfmkokfbgclaaGreatProg.lean LOADS. Nothing in Lean hashes anything: it is a label: what it is worth is what the hold of that sum in a sandbox is worth. -/
noncomputable def Tryz.pinned : Pinned := { name := "ytflfmkokfbgclaagreat", sum := "76ded0fdc5aba55b02350c3c887fb0f8ba04261854d4be762a60deb37f7f6e9d", checked := Tryz.checked }
namespace Rows
def none {H : Type} : Left H := { results := [], args := [] }

/-- 'palatinelaw05.StoreRecords': WHATEVER THE INPUT: true; the input reads as it did. -/
def storeRecordsSpec : ChangeSpec := { name := "storeRecords", fn := fun _ => fun
  | [d1, d2] => { results := [.lit (.bool true)], args := [d1, d2] }
  | _ => none }
def storeRecordsRow : OpenClaim := { program := "ytflfmkokfbgclaagreat", sum := "76ded0fdc5aba55b02350c3c887fb0f8ba04261854d4be762a60deb37f7f6e9d", func := "palatine/palatinelaw05.StoreRecords", spec := "storeRecords", inPlace := ["sync/atomic.StoreInt64", "slices.overlaps[string]", "slices.overlaps[palatine/tree.part]", "sync/atomic.LoadInt64"], unfollowed := true, recurses := true, apart := false }
def StoreRecordsSaid : Prop := storeRecordsRow.holds Tryz.pinned (OpenSpec.ofChange storeRecordsSpec)

/-- ITS FALSE NEIGHBOUR: 'it returns false'. Refute it at one input. -/
def storeRecordsWrong : ChangeSpec := { name := "storeRecords", fn := fun _ => fun
  | [d1, d2] => { results := [.lit (.bool false)], args := [d1, d2] }
  | _ => none }
def StoreRecordsWrongFalsely : Prop := storeRecordsRow.holds Tryz.pinned (OpenSpec.ofChange storeRecordsWrong)

/-- 'palatinelaw05.StoreLasts': WHATEVER THE INPUT: true; the input reads as it did. -/
def storeLastsSpec : ChangeSpec := { name := "storeLasts", fn := fun _ => fun
  | [d1, d2] => { results := [.lit (.bool true)], args := [d1, d2] }
  | _ => none }
def storeLastsRow : OpenClaim := { program := "ytflfmkokfbgclaagreat", sum := "76ded0fdc5aba55b02350c3c887fb0f8ba04261854d4be762a60deb37f7f6e9d", func := "palatine/palatinelaw05.StoreLasts", spec := "storeLasts", inPlace := ["sync/atomic.StoreInt64", "slices.overlaps[string]", "slices.overlaps[palatine/tree.part]", "sync/atomic.LoadInt64"], unfollowed := true, recurses := true, apart := false }
def StoreLastsSaid : Prop := storeLastsRow.holds Tryz.pinned (OpenSpec.ofChange storeLastsSpec)

/-- ITS FALSE NEIGHBOUR: 'it returns false'. Refute it at one input. -/
def storeLastsWrong : ChangeSpec := { name := "storeLasts", fn := fun _ => fun
  | [d1, d2] => { results := [.lit (.bool false)], args := [d1, d2] }
  | _ => none }
def StoreLastsWrongFalsely : Prop := storeLastsRow.holds Tryz.pinned (OpenSpec.ofChange storeLastsWrong)

/-- 'palatinelaw05.StoreSame': WHATEVER THE INPUT: true; the input reads as it did. -/
def storeSameSpec : ChangeSpec := { name := "storeSame", fn := fun _ => fun
  | [d1, d2] => { results := [.lit (.bool true)], args := [d1, d2] }
  | _ => none }
def storeSameRow : OpenClaim := { program := "ytflfmkokfbgclaagreat", sum := "76ded0fdc5aba55b02350c3c887fb0f8ba04261854d4be762a60deb37f7f6e9d", func := "palatine/palatinelaw05.StoreSame", spec := "storeSame", inPlace := ["sync/atomic.StoreInt64", "slices.overlaps[string]", "slices.overlaps[palatine/tree.part]", "sync/atomic.LoadInt64"], unfollowed := true, recurses := true, apart := false }
def StoreSameSaid : Prop := storeSameRow.holds Tryz.pinned (OpenSpec.ofChange storeSameSpec)

/-- ITS FALSE NEIGHBOUR: 'it returns false'. Refute it at one input. -/
def storeSameWrong : ChangeSpec := { name := "storeSame", fn := fun _ => fun
  | [d1, d2] => { results := [.lit (.bool false)], args := [d1, d2] }
  | _ => none }
def StoreSameWrongFalsely : Prop := storeSameRow.holds Tryz.pinned (OpenSpec.ofChange storeSameWrong)

/-- 'palatinelaw05.StoreParts': WHATEVER THE INPUT: true; the input reads as it did. -/
def storePartsSpec : ChangeSpec := { name := "storeParts", fn := fun _ => fun
  | [d] => { results := [.lit (.bool true)], args := [d] }
  | _ => none }
def storePartsRow : OpenClaim := { program := "ytflfmkokfbgclaagreat", sum := "76ded0fdc5aba55b02350c3c887fb0f8ba04261854d4be762a60deb37f7f6e9d", func := "palatine/palatinelaw05.StoreParts", spec := "storeParts", inPlace := ["sync/atomic.StoreInt64", "slices.overlaps[string]", "slices.overlaps[palatine/tree.part]", "sync/atomic.LoadInt64"], unfollowed := true, recurses := true, apart := false }
def StorePartsSaid : Prop := storePartsRow.holds Tryz.pinned (OpenSpec.ofChange storePartsSpec)

/-- ITS FALSE NEIGHBOUR: 'it returns false'. Refute it at one input. -/
def storePartsWrong : ChangeSpec := { name := "storeParts", fn := fun _ => fun
  | [d] => { results := [.lit (.bool false)], args := [d] }
  | _ => none }
def StorePartsWrongFalsely : Prop := storePartsRow.holds Tryz.pinned (OpenSpec.ofChange storePartsWrong)

/- THE SECOND FORM. 'bulk': how many values and letters a reading holds, each counted each time it is reached (what is shared counts as often as it is met; a slice's spare places count too). A statement '..UptoSaid' is the law's where the arguments, and the package variables that the reading takes, are together of bulk at most 1048576: NARROWER than '..Said'. Prove '..Said' where nothing that the law and all that it calls make is longer than what came in: it says more and counts as full. Else prove '..UptoSaid'. A law counts once. -/
mutual
def uptoBulk {H : Type} : DataW H → Nat
  | .lit (.string bytes) => bytes.length + 1
  | .lit _ => 1
  | .nil => 1
  | .ptr d => uptoBulk d + 1
  | .slice elems spare => uptoBulkAll elems + uptoBulkAll spare + 1
  | .agg parts => uptoBulkAll parts + 1
  | .iface _ d => uptoBulk d + 1
  | .map entries => uptoBulkEntries entries + 1
  | .held _ => 1
def uptoBulkAll {H : Type} : List (DataW H) → Nat
  | [] => 0
  | d :: r => uptoBulk d + uptoBulkAll r
def uptoBulkEntries {H : Type} : List (Lit × DataW H) → Nat
  | [] => 0
  | x :: r => uptoBulkEntry x + uptoBulkEntries r
def uptoBulkEntry {H : Type} : Lit × DataW H → Nat
  | (.string bytes, d) => bytes.length + uptoBulk d + 1
  | (_, d) => uptoBulk d + 1
 end
def uptoSmall : (H : Type) → List (DataW H) → Bool := fun _ ds => decide (uptoBulkAll ds ≤ 1048576)
def OpenSpec.upto (s : _root_.Go.ChangeSpec) : _root_.Go.OpenSpec := { _root_.Go.OpenSpec.ofChange s with cond := some uptoSmall }

/-- 'palatinelaw05.StoreRecords', WHERE WHAT IT READS IS OF BULK AT MOST 1048576: true; the input reads as it did. -/
def storeRecordsUptoRow : OpenClaim := { program := "ytflfmkokfbgclaagreat", sum := "76ded0fdc5aba55b02350c3c887fb0f8ba04261854d4be762a60deb37f7f6e9d", func := "palatine/palatinelaw05.StoreRecords", spec := "storeRecords", inPlace := ["sync/atomic.StoreInt64", "slices.overlaps[string]", "slices.overlaps[palatine/tree.part]", "sync/atomic.LoadInt64"], unfollowed := true, recurses := true, apart := false, narrowed := true }
def StoreRecordsUptoSaid : Prop := storeRecordsUptoRow.holds Tryz.pinned (OpenSpec.upto storeRecordsSpec)

/-- 'palatinelaw05.StoreLasts', WHERE WHAT IT READS IS OF BULK AT MOST 1048576: true; the input reads as it did. -/
def storeLastsUptoRow : OpenClaim := { program := "ytflfmkokfbgclaagreat", sum := "76ded0fdc5aba55b02350c3c887fb0f8ba04261854d4be762a60deb37f7f6e9d", func := "palatine/palatinelaw05.StoreLasts", spec := "storeLasts", inPlace := ["sync/atomic.StoreInt64", "slices.overlaps[string]", "slices.overlaps[palatine/tree.part]", "sync/atomic.LoadInt64"], unfollowed := true, recurses := true, apart := false, narrowed := true }
def StoreLastsUptoSaid : Prop := storeLastsUptoRow.holds Tryz.pinned (OpenSpec.upto storeLastsSpec)

/-- 'palatinelaw05.StoreSame', WHERE WHAT IT READS IS OF BULK AT MOST 1048576: true; the input reads as it did. -/
def storeSameUptoRow : OpenClaim := { program := "ytflfmkokfbgclaagreat", sum := "76ded0fdc5aba55b02350c3c887fb0f8ba04261854d4be762a60deb37f7f6e9d", func := "palatine/palatinelaw05.StoreSame", spec := "storeSame", inPlace := ["sync/atomic.StoreInt64", "slices.overlaps[string]", "slices.overlaps[palatine/tree.part]", "sync/atomic.LoadInt64"], unfollowed := true, recurses := true, apart := false, narrowed := true }
def StoreSameUptoSaid : Prop := storeSameUptoRow.holds Tryz.pinned (OpenSpec.upto storeSameSpec)

/-- 'palatinelaw05.StoreParts', WHERE WHAT IT READS IS OF BULK AT MOST 1048576: true; the input reads as it did. -/
def storePartsUptoRow : OpenClaim := { program := "ytflfmkokfbgclaagreat", sum := "76ded0fdc5aba55b02350c3c887fb0f8ba04261854d4be762a60deb37f7f6e9d", func := "palatine/palatinelaw05.StoreParts", spec := "storeParts", inPlace := ["sync/atomic.StoreInt64", "slices.overlaps[string]", "slices.overlaps[palatine/tree.part]", "sync/atomic.LoadInt64"], unfollowed := true, recurses := true, apart := false, narrowed := true }
def StorePartsUptoSaid : Prop := storePartsUptoRow.holds Tryz.pinned (OpenSpec.upto storePartsSpec)

end Rows
end Go.Proofs.YtflfmkokfbgclaaGreat
