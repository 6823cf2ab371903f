/-
  NARROWER THAN 'FOR EVERY INPUT', by the rows' own cells (each row's printed sentence says how): BerWrites: loops · BerBack: loops · BerCut: loops.
  DERIVED. THE GIVEN ROWS OF THIS SEAT. 7 by the template 'for every input the law returns true; each argument reads behind the call as it read before'; 0 by the template 'total and deterministic' (their statements: YthnahoodgkeaiaaTotals.lean).
  GIVEN WITH THE SEED: the statements are not yours to turn. If you find one false, say at which input.
  Laid BY PROGRAM, IN A SANDBOX (cutbox-rows.mjs): the forced cells as the released guide's own fill.sh prints them over the translation 65d1edc000507be2… (all of the seat's roots in one cut). By AI agents, Wed Nov 11 2026. No macro, syntax, notation, axiom, sorry.
-/
import Derived.Test.YthnahoodgkeaiaaChecked
import GoSem.Claim
import GoSem.ClaimJoined
import GoSem.ClaimMapViews
import Derived.JoinedTies
import Derived.KernelRfl
namespace Go.Proofs.Ythnahoodgkeaiaa
/- THE CELL 'sum', in the pinned program and in every row, IS THE sha256 OF THE DUMP (.gsa) THAT YthnahoodgkeaiaaProg.lean LOADS. Nothing in Lean hashes anything: it is a label: what it is worth is what the hold of that sum in a sandbox is worth. -/
noncomputable def Try.pinned : Pinned := { name := "ythnahoodgkeaiaa", sum := "65d1edc000507be2679b133ed79f93acfaa264f0a27f03ee40f700f46eb572ba", checked := Try.checked }
namespace Rows
def none {H : Type} : Left H := { results := [], args := [] }

/-- 'palatinelaw09.BerWrites': WHATEVER THE INPUT: true; the input reads as it did. -/
def berWritesSpec : ChangeSpec := { name := "berWrites", fn := fun _ => fun
  | [d] => { results := [.lit (.bool true)], args := [d] }
  | _ => none }
def berWritesRow : OpenClaim := { program := "ythnahoodgkeaiaa", sum := "65d1edc000507be2679b133ed79f93acfaa264f0a27f03ee40f700f46eb572ba", func := "palatine/palatinelaw09.BerWrites", spec := "berWrites", unfollowed := true, recurses := true, loops := true, apart := false }
def BerWritesSaid : Prop := berWritesRow.holds Try.pinned (OpenSpec.ofChange berWritesSpec)

/-- ITS FALSE NEIGHBOUR: 'it returns false'. Refute it at one input. -/
def berWritesWrong : ChangeSpec := { name := "berWrites", fn := fun _ => fun
  | [d] => { results := [.lit (.bool false)], args := [d] }
  | _ => none }
def BerWritesWrongFalsely : Prop := berWritesRow.holds Try.pinned (OpenSpec.ofChange berWritesWrong)

/-- 'palatinelaw09.BerReads': WHATEVER THE INPUT: true; the input reads as it did. -/
def berReadsSpec : ChangeSpec := { name := "berReads", fn := fun _ => fun
  | [d] => { results := [.lit (.bool true)], args := [d] }
  | _ => none }
def berReadsRow : OpenClaim := { program := "ythnahoodgkeaiaa", sum := "65d1edc000507be2679b133ed79f93acfaa264f0a27f03ee40f700f46eb572ba", func := "palatine/palatinelaw09.BerReads", spec := "berReads", unfollowed := true, recurses := true, apart := false }
def BerReadsSaid : Prop := berReadsRow.holds Try.pinned (OpenSpec.ofChange berReadsSpec)

/-- ITS FALSE NEIGHBOUR: 'it returns false'. Refute it at one input. -/
def berReadsWrong : ChangeSpec := { name := "berReads", fn := fun _ => fun
  | [d] => { results := [.lit (.bool false)], args := [d] }
  | _ => none }
def BerReadsWrongFalsely : Prop := berReadsRow.holds Try.pinned (OpenSpec.ofChange berReadsWrong)

/-- 'palatinelaw09.BerBack': WHATEVER THE INPUT: true; the input reads as it did. -/
def berBackSpec : ChangeSpec := { name := "berBack", fn := fun _ => fun
  | [d1, d2] => { results := [.lit (.bool true)], args := [d1, d2] }
  | _ => none }
def berBackRow : OpenClaim := { program := "ythnahoodgkeaiaa", sum := "65d1edc000507be2679b133ed79f93acfaa264f0a27f03ee40f700f46eb572ba", func := "palatine/palatinelaw09.BerBack", spec := "berBack", unfollowed := true, recurses := true, loops := true, apart := false }
def BerBackSaid : Prop := berBackRow.holds Try.pinned (OpenSpec.ofChange berBackSpec)

/-- ITS FALSE NEIGHBOUR: 'it returns false'. Refute it at one input. -/
def berBackWrong : ChangeSpec := { name := "berBack", fn := fun _ => fun
  | [d1, d2] => { results := [.lit (.bool false)], args := [d1, d2] }
  | _ => none }
def BerBackWrongFalsely : Prop := berBackRow.holds Try.pinned (OpenSpec.ofChange berBackWrong)

/-- 'palatinelaw09.BerOnly': WHATEVER THE INPUT: true; the input reads as it did. -/
def berOnlySpec : ChangeSpec := { name := "berOnly", fn := fun _ => fun
  | [d] => { results := [.lit (.bool true)], args := [d] }
  | _ => none }
def berOnlyRow : OpenClaim := { program := "ythnahoodgkeaiaa", sum := "65d1edc000507be2679b133ed79f93acfaa264f0a27f03ee40f700f46eb572ba", func := "palatine/palatinelaw09.BerOnly", spec := "berOnly", unfollowed := true, recurses := true, apart := false }
def BerOnlySaid : Prop := berOnlyRow.holds Try.pinned (OpenSpec.ofChange berOnlySpec)

/-- ITS FALSE NEIGHBOUR: 'it returns false'. Refute it at one input. -/
def berOnlyWrong : ChangeSpec := { name := "berOnly", fn := fun _ => fun
  | [d] => { results := [.lit (.bool false)], args := [d] }
  | _ => none }
def BerOnlyWrongFalsely : Prop := berOnlyRow.holds Try.pinned (OpenSpec.ofChange berOnlyWrong)

/-- 'palatinelaw09.BerCut': WHATEVER THE INPUT: true; the input reads as it did. -/
def berCutSpec : ChangeSpec := { name := "berCut", fn := fun _ => fun
  | [d1, d2] => { results := [.lit (.bool true)], args := [d1, d2] }
  | _ => none }
def berCutRow : OpenClaim := { program := "ythnahoodgkeaiaa", sum := "65d1edc000507be2679b133ed79f93acfaa264f0a27f03ee40f700f46eb572ba", func := "palatine/palatinelaw09.BerCut", spec := "berCut", unfollowed := true, recurses := true, loops := true, apart := false }
def BerCutSaid : Prop := berCutRow.holds Try.pinned (OpenSpec.ofChange berCutSpec)

/-- ITS FALSE NEIGHBOUR: 'it returns false'. Refute it at one input. -/
def berCutWrong : ChangeSpec := { name := "berCut", fn := fun _ => fun
  | [d1, d2] => { results := [.lit (.bool false)], args := [d1, d2] }
  | _ => none }
def BerCutWrongFalsely : Prop := berCutRow.holds Try.pinned (OpenSpec.ofChange berCutWrong)

/-- 'palatinelaw09.BerNumbers': WHATEVER THE INPUT: true; the input reads as it did. -/
def berNumbersSpec : ChangeSpec := { name := "berNumbers", fn := fun _ => fun
  | [d1, d2] => { results := [.lit (.bool true)], args := [d1, d2] }
  | _ => none }
def berNumbersRow : OpenClaim := { program := "ythnahoodgkeaiaa", sum := "65d1edc000507be2679b133ed79f93acfaa264f0a27f03ee40f700f46eb572ba", func := "palatine/palatinelaw09.BerNumbers", spec := "berNumbers", unfollowed := true, recurses := true, apart := false }
def BerNumbersSaid : Prop := berNumbersRow.holds Try.pinned (OpenSpec.ofChange berNumbersSpec)

/-- ITS FALSE NEIGHBOUR: 'it returns false'. Refute it at one input. -/
def berNumbersWrong : ChangeSpec := { name := "berNumbers", fn := fun _ => fun
  | [d1, d2] => { results := [.lit (.bool false)], args := [d1, d2] }
  | _ => none }
def BerNumbersWrongFalsely : Prop := berNumbersRow.holds Try.pinned (OpenSpec.ofChange berNumbersWrong)

/-- 'palatinelaw09.BerNests': WHATEVER THE INPUT: true; the input reads as it did. -/
def berNestsSpec : ChangeSpec := { name := "berNests", fn := fun _ => fun
  | [d1, d2] => { results := [.lit (.bool true)], args := [d1, d2] }
  | _ => none }
def berNestsRow : OpenClaim := { program := "ythnahoodgkeaiaa", sum := "65d1edc000507be2679b133ed79f93acfaa264f0a27f03ee40f700f46eb572ba", func := "palatine/palatinelaw09.BerNests", spec := "berNests", unfollowed := true, recurses := true, apart := false }
def BerNestsSaid : Prop := berNestsRow.holds Try.pinned (OpenSpec.ofChange berNestsSpec)

/-- ITS FALSE NEIGHBOUR: 'it returns false'. Refute it at one input. -/
def berNestsWrong : ChangeSpec := { name := "berNests", fn := fun _ => fun
  | [d1, d2] => { results := [.lit (.bool false)], args := [d1, d2] }
  | _ => none }
def BerNestsWrongFalsely : Prop := berNestsRow.holds Try.pinned (OpenSpec.ofChange berNestsWrong)

/- THE SECOND FORM. 'bulk': how many values and letters a reading holds, each counted each time it is reached (what is shared counts as often as it is met; a slice's spare places count too). A statement '..UptoSaid' is the law's where the arguments, and the package variables that the reading takes, are together of bulk at most 1048576: NARROWER than '..Said'. Prove '..Said' where nothing that the law and all that it calls make is longer than what came in: it says more and counts as full. Else prove '..UptoSaid'. A law counts once. -/
mutual
def uptoBulk {H : Type} : DataW H → Nat
  | .lit (.string bytes) => bytes.length + 1
  | .lit _ => 1
  | .nil => 1
  | .ptr d => uptoBulk d + 1
  | .slice elems spare => uptoBulkAll elems + uptoBulkAll spare + 1
  | .agg parts => uptoBulkAll parts + 1
  | .iface _ d => uptoBulk d + 1
  | .map entries => uptoBulkEntries entries + 1
  | .held _ => 1
def uptoBulkAll {H : Type} : List (DataW H) → Nat
  | [] => 0
  | d :: r => uptoBulk d + uptoBulkAll r
def uptoBulkEntries {H : Type} : List (Lit × DataW H) → Nat
  | [] => 0
  | x :: r => uptoBulkEntry x + uptoBulkEntries r
def uptoBulkEntry {H : Type} : Lit × DataW H → Nat
  | (.string bytes, d) => bytes.length + uptoBulk d + 1
  | (_, d) => uptoBulk d + 1
 end
def uptoSmall : (H : Type) → List (DataW H) → Bool := fun _ ds => decide (uptoBulkAll ds ≤ 1048576)
def OpenSpec.upto (s : _root_.Go.ChangeSpec) : _root_.Go.OpenSpec := { _root_.Go.OpenSpec.ofChange s with cond := some uptoSmall }

/-- 'palatinelaw09.BerWrites', WHERE WHAT IT READS IS OF BULK AT MOST 1048576: true; the input reads as it did. -/
def berWritesUptoRow : OpenClaim := { program := "ythnahoodgkeaiaa", sum := "65d1edc000507be2679b133ed79f93acfaa264f0a27f03ee40f700f46eb572ba", func := "palatine/palatinelaw09.BerWrites", spec := "berWrites", unfollowed := true, recurses := true, loops := true, apart := false, narrowed := true }
def BerWritesUptoSaid : Prop := berWritesUptoRow.holds Try.pinned (OpenSpec.upto berWritesSpec)

/-- 'palatinelaw09.BerReads', WHERE WHAT IT READS IS OF BULK AT MOST 1048576: true; the input reads as it did. -/
def berReadsUptoRow : OpenClaim := { program := "ythnahoodgkeaiaa", sum := "65d1edc000507be2679b133ed79f93acfaa264f0a27f03ee40f700f46eb572ba", func := "palatine/palatinelaw09.BerReads", spec := "berReads", unfollowed := true, recurses := true, apart := false, narrowed := true }
def BerReadsUptoSaid : Prop := berReadsUptoRow.holds Try.pinned (OpenSpec.upto berReadsSpec)

/-- 'palatinelaw09.BerBack', WHERE WHAT IT READS IS OF BULK AT MOST 1048576: true; the input reads as it did. -/
def berBackUptoRow : OpenClaim := { program := "ythnahoodgkeaiaa", sum := "65d1edc000507be2679b133ed79f93acfaa264f0a27f03ee40f700f46eb572ba", func := "palatine/palatinelaw09.BerBack", spec := "berBack", unfollowed := true, recurses := true, loops := true, apart := false, narrowed := true }
def BerBackUptoSaid : Prop := berBackUptoRow.holds Try.pinned (OpenSpec.upto berBackSpec)

/-- 'palatinelaw09.BerOnly', WHERE WHAT IT READS IS OF BULK AT MOST 1048576: true; the input reads as it did. -/
def berOnlyUptoRow : OpenClaim := { program := "ythnahoodgkeaiaa", sum := "65d1edc000507be2679b133ed79f93acfaa264f0a27f03ee40f700f46eb572ba", func := "palatine/palatinelaw09.BerOnly", spec := "berOnly", unfollowed := true, recurses := true, apart := false, narrowed := true }
def BerOnlyUptoSaid : Prop := berOnlyUptoRow.holds Try.pinned (OpenSpec.upto berOnlySpec)

/-- 'palatinelaw09.BerCut', WHERE WHAT IT READS IS OF BULK AT MOST 1048576: true; the input reads as it did. -/
def berCutUptoRow : OpenClaim := { program := "ythnahoodgkeaiaa", sum := "65d1edc000507be2679b133ed79f93acfaa264f0a27f03ee40f700f46eb572ba", func := "palatine/palatinelaw09.BerCut", spec := "berCut", unfollowed := true, recurses := true, loops := true, apart := false, narrowed := true }
def BerCutUptoSaid : Prop := berCutUptoRow.holds Try.pinned (OpenSpec.upto berCutSpec)

/-- 'palatinelaw09.BerNumbers', WHERE WHAT IT READS IS OF BULK AT MOST 1048576: true; the input reads as it did. -/
def berNumbersUptoRow : OpenClaim := { program := "ythnahoodgkeaiaa", sum := "65d1edc000507be2679b133ed79f93acfaa264f0a27f03ee40f700f46eb572ba", func := "palatine/palatinelaw09.BerNumbers", spec := "berNumbers", unfollowed := true, recurses := true, apart := false, narrowed := true }
def BerNumbersUptoSaid : Prop := berNumbersUptoRow.holds Try.pinned (OpenSpec.upto berNumbersSpec)

/-- 'palatinelaw09.BerNests', WHERE WHAT IT READS IS OF BULK AT MOST 1048576: true; the input reads as it did. -/
def berNestsUptoRow : OpenClaim := { program := "ythnahoodgkeaiaa", sum := "65d1edc000507be2679b133ed79f93acfaa264f0a27f03ee40f700f46eb572ba", func := "palatine/palatinelaw09.BerNests", spec := "berNests", unfollowed := true, recurses := true, apart := false, narrowed := true }
def BerNestsUptoSaid : Prop := berNestsUptoRow.holds Try.pinned (OpenSpec.upto berNestsSpec)

end Rows
end Go.Proofs.Ythnahoodgkeaiaa
