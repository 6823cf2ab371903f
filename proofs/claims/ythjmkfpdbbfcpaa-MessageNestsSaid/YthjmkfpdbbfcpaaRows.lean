/-
  NARROWER THAN 'FOR EVERY INPUT', by the rows' own cells (each row's printed sentence says how): MessageBack: loops · MessageWhole: loops.
  DERIVED. THE GIVEN ROWS OF THIS SEAT. 4 by the template 'for every input the law returns true; each argument reads behind the call as it read before'; 0 by the template 'total and deterministic' (their statements: YthjmkfpdbbfcpaaTotals.lean).
  GIVEN WITH THE SEED: the statements are not yours to turn. If you find one false, say at which input.
  Laid BY PROGRAM, IN A SANDBOX (cutbox-rows.mjs): the forced cells as the released guide's own fill.sh prints them over the translation 24f03dbe7c909de3… (all of the seat's roots in one cut). By AI agents, Wed Nov 11 2026. No macro, syntax, notation, axiom, sorry.
-/
import Derived.Test.YthjmkfpdbbfcpaaChecked
import GoSem.Claim
import GoSem.ClaimJoined
import GoSem.ClaimMapViews
import Derived.JoinedTies
import Derived.KernelRfl
namespace Go.Proofs.Ythjmkfpdbbfcpaa
/- THE CELL 'sum', in the pinned program and in every row, IS THE sha256 OF THE DUMP (.gsa) THAT YthjmkfpdbbfcpaaProg.lean LOADS. Nothing in Lean hashes anything: it is a label: what it is worth is what the hold of that sum in a sandbox is worth. -/
noncomputable def Try.pinned : Pinned := { name := "ythjmkfpdbbfcpaa", sum := "24f03dbe7c909de38927f7bcc2595aee6e4d5a3d37b6e2a9b6488e875197bd61", checked := Try.checked }
namespace Rows
def none {H : Type} : Left H := { results := [], args := [] }

/-- 'palatinelaw11.MessageBack': WHATEVER THE INPUT: true; the input reads as it did. -/
def messageBackSpec : ChangeSpec := { name := "messageBack", fn := fun _ => fun
  | [d] => { results := [.lit (.bool true)], args := [d] }
  | _ => none }
def messageBackRow : OpenClaim := { program := "ythjmkfpdbbfcpaa", sum := "24f03dbe7c909de38927f7bcc2595aee6e4d5a3d37b6e2a9b6488e875197bd61", func := "palatine/palatinelaw11.MessageBack", spec := "messageBack", unfollowed := true, recurses := true, loops := true, apart := false }
def MessageBackSaid : Prop := messageBackRow.holds Try.pinned (OpenSpec.ofChange messageBackSpec)

/-- ITS FALSE NEIGHBOUR: 'it returns false'. Refute it at one input. -/
def messageBackWrong : ChangeSpec := { name := "messageBack", fn := fun _ => fun
  | [d] => { results := [.lit (.bool false)], args := [d] }
  | _ => none }
def MessageBackWrongFalsely : Prop := messageBackRow.holds Try.pinned (OpenSpec.ofChange messageBackWrong)

/-- 'palatinelaw11.MessageOnly': WHATEVER THE INPUT: true; the input reads as it did. -/
def messageOnlySpec : ChangeSpec := { name := "messageOnly", fn := fun _ => fun
  | [d] => { results := [.lit (.bool true)], args := [d] }
  | _ => none }
def messageOnlyRow : OpenClaim := { program := "ythjmkfpdbbfcpaa", sum := "24f03dbe7c909de38927f7bcc2595aee6e4d5a3d37b6e2a9b6488e875197bd61", func := "palatine/palatinelaw11.MessageOnly", spec := "messageOnly", unfollowed := true, recurses := true, apart := false }
def MessageOnlySaid : Prop := messageOnlyRow.holds Try.pinned (OpenSpec.ofChange messageOnlySpec)

/-- ITS FALSE NEIGHBOUR: 'it returns false'. Refute it at one input. -/
def messageOnlyWrong : ChangeSpec := { name := "messageOnly", fn := fun _ => fun
  | [d] => { results := [.lit (.bool false)], args := [d] }
  | _ => none }
def MessageOnlyWrongFalsely : Prop := messageOnlyRow.holds Try.pinned (OpenSpec.ofChange messageOnlyWrong)

/-- 'palatinelaw11.MessageWhole': WHATEVER THE INPUT: true; the input reads as it did. -/
def messageWholeSpec : ChangeSpec := { name := "messageWhole", fn := fun _ => fun
  | [d1, d2, d3] => { results := [.lit (.bool true)], args := [d1, d2, d3] }
  | _ => none }
def messageWholeRow : OpenClaim := { program := "ythjmkfpdbbfcpaa", sum := "24f03dbe7c909de38927f7bcc2595aee6e4d5a3d37b6e2a9b6488e875197bd61", func := "palatine/palatinelaw11.MessageWhole", spec := "messageWhole", unfollowed := true, recurses := true, loops := true, apart := false }
def MessageWholeSaid : Prop := messageWholeRow.holds Try.pinned (OpenSpec.ofChange messageWholeSpec)

/-- ITS FALSE NEIGHBOUR: 'it returns false'. Refute it at one input. -/
def messageWholeWrong : ChangeSpec := { name := "messageWhole", fn := fun _ => fun
  | [d1, d2, d3] => { results := [.lit (.bool false)], args := [d1, d2, d3] }
  | _ => none }
def MessageWholeWrongFalsely : Prop := messageWholeRow.holds Try.pinned (OpenSpec.ofChange messageWholeWrong)

/-- 'palatinelaw11.MessageNests': WHATEVER THE INPUT: true; the input reads as it did. -/
def messageNestsSpec : ChangeSpec := { name := "messageNests", fn := fun _ => fun
  | [d1, d2] => { results := [.lit (.bool true)], args := [d1, d2] }
  | _ => none }
def messageNestsRow : OpenClaim := { program := "ythjmkfpdbbfcpaa", sum := "24f03dbe7c909de38927f7bcc2595aee6e4d5a3d37b6e2a9b6488e875197bd61", func := "palatine/palatinelaw11.MessageNests", spec := "messageNests", unfollowed := true, recurses := true, apart := false }
def MessageNestsSaid : Prop := messageNestsRow.holds Try.pinned (OpenSpec.ofChange messageNestsSpec)

/-- ITS FALSE NEIGHBOUR: 'it returns false'. Refute it at one input. -/
def messageNestsWrong : ChangeSpec := { name := "messageNests", fn := fun _ => fun
  | [d1, d2] => { results := [.lit (.bool false)], args := [d1, d2] }
  | _ => none }
def MessageNestsWrongFalsely : Prop := messageNestsRow.holds Try.pinned (OpenSpec.ofChange messageNestsWrong)

/- THE SECOND FORM. 'bulk': how many values and letters a reading holds, each counted each time it is reached (what is shared counts as often as it is met; a slice's spare places count too). A statement '..UptoSaid' is the law's where the arguments, and the package variables that the reading takes, are together of bulk at most 1048576: NARROWER than '..Said'. Prove '..Said' where nothing that the law and all that it calls make is longer than what came in: it says more and counts as full. Else prove '..UptoSaid'. A law counts once. -/
mutual
def uptoBulk {H : Type} : DataW H → Nat
  | .lit (.string bytes) => bytes.length + 1
  | .lit _ => 1
  | .nil => 1
  | .ptr d => uptoBulk d + 1
  | .slice elems spare => uptoBulkAll elems + uptoBulkAll spare + 1
  | .agg parts => uptoBulkAll parts + 1
  | .iface _ d => uptoBulk d + 1
  | .map entries => uptoBulkEntries entries + 1
  | .held _ => 1
def uptoBulkAll {H : Type} : List (DataW H) → Nat
  | [] => 0
  | d :: r => uptoBulk d + uptoBulkAll r
def uptoBulkEntries {H : Type} : List (Lit × DataW H) → Nat
  | [] => 0
  | x :: r => uptoBulkEntry x + uptoBulkEntries r
def uptoBulkEntry {H : Type} : Lit × DataW H → Nat
  | (.string bytes, d) => bytes.length + uptoBulk d + 1
  | (_, d) => uptoBulk d + 1
 end
def uptoSmall : (H : Type) → List (DataW H) → Bool := fun _ ds => decide (uptoBulkAll ds ≤ 1048576)
def OpenSpec.upto (s : _root_.Go.ChangeSpec) : _root_.Go.OpenSpec := { _root_.Go.OpenSpec.ofChange s with cond := some uptoSmall }

/-- 'palatinelaw11.MessageBack', WHERE WHAT IT READS IS OF BULK AT MOST 1048576: true; the input reads as it did. -/
def messageBackUptoRow : OpenClaim := { program := "ythjmkfpdbbfcpaa", sum := "24f03dbe7c909de38927f7bcc2595aee6e4d5a3d37b6e2a9b6488e875197bd61", func := "palatine/palatinelaw11.MessageBack", spec := "messageBack", unfollowed := true, recurses := true, loops := true, apart := false, narrowed := true }
def MessageBackUptoSaid : Prop := messageBackUptoRow.holds Try.pinned (OpenSpec.upto messageBackSpec)

/-- 'palatinelaw11.MessageOnly', WHERE WHAT IT READS IS OF BULK AT MOST 1048576: true; the input reads as it did. -/
def messageOnlyUptoRow : OpenClaim := { program := "ythjmkfpdbbfcpaa", sum := "24f03dbe7c909de38927f7bcc2595aee6e4d5a3d37b6e2a9b6488e875197bd61", func := "palatine/palatinelaw11.MessageOnly", spec := "messageOnly", unfollowed := true, recurses := true, apart := false, narrowed := true }
def MessageOnlyUptoSaid : Prop := messageOnlyUptoRow.holds Try.pinned (OpenSpec.upto messageOnlySpec)

/-- 'palatinelaw11.MessageWhole', WHERE WHAT IT READS IS OF BULK AT MOST 1048576: true; the input reads as it did. -/
def messageWholeUptoRow : OpenClaim := { program := "ythjmkfpdbbfcpaa", sum := "24f03dbe7c909de38927f7bcc2595aee6e4d5a3d37b6e2a9b6488e875197bd61", func := "palatine/palatinelaw11.MessageWhole", spec := "messageWhole", unfollowed := true, recurses := true, loops := true, apart := false, narrowed := true }
def MessageWholeUptoSaid : Prop := messageWholeUptoRow.holds Try.pinned (OpenSpec.upto messageWholeSpec)

/-- 'palatinelaw11.MessageNests', WHERE WHAT IT READS IS OF BULK AT MOST 1048576: true; the input reads as it did. -/
def messageNestsUptoRow : OpenClaim := { program := "ythjmkfpdbbfcpaa", sum := "24f03dbe7c909de38927f7bcc2595aee6e4d5a3d37b6e2a9b6488e875197bd61", func := "palatine/palatinelaw11.MessageNests", spec := "messageNests", unfollowed := true, recurses := true, apart := false, narrowed := true }
def MessageNestsUptoSaid : Prop := messageNestsUptoRow.holds Try.pinned (OpenSpec.upto messageNestsSpec)

end Rows
end Go.Proofs.Ythjmkfpdbbfcpaa
