/-
  Part 38 of the proof: LogM.
-/
import Derived.Test.YtflfmkokfbgclaaGreatRc28
set_option linter.unusedSimpArgs false
set_option linter.unusedVariables false
namespace Go.Proofs.YtflfmkokfbgclaaGreat.L
set_option maxRecDepth 100000
open Go.RowKit K

end Go.Proofs.YtflfmkokfbgclaaGreat.L
