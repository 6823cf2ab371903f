/-
  What stage 12's rows list, as the program's text lays it: a sentinel and a world in which all of it lies so.
-/
import Derived.Test.YthjmkfpdbbfcpaaGreatDoorCards
import Derived.Test.YthjmkfpdbbfcpaaGreatDoorTie
import Derived.Test.YthjmkfpdbbfcpaaGreatDoorDnRow
import Derived.Test.YthjmkfpdbbfcpaaGreatDoorDnV
import Derived.WalkKit
import Derived.ProofKit
import Derived.OpenShut
import Derived.Deep.DeepHandedRow
import Derived.RowKitTokens
import Derived.Stop.ErrReads
import Derived.Stop.LaidErr
set_option linter.unusedVariables false
set_option linter.unusedSimpArgs false
namespace Go.Proofs.YthjmkfpdbbfcpaaGreatDoor.DN
set_option maxRecDepth 100000
open Go.ChangeShapes Go.WideShapes Go.ChangeAt Go.RowKit K Go.Proofs.YthjmkfpdbbfcpaaGreatDoor.BE

def laid : List (String × DataW Unit) := [("math/bits.deBruijn32tab", Rows.laid_math_bits_deBruijn32tab), ("math/bits.deBruijn64tab", Rows.laid_math_bits_deBruijn64tab), ("internal/strconv.uint64pow10", Rows.laid_internal_strconv_uint64pow10), ("strconv.ErrRange", Rows.laid_strconv_ErrRange), ("strconv.ErrSyntax", Rows.laid_strconv_ErrSyntax)]
theorem gSyn : Tryz.prog.globalNamed "strconv.ErrSyntax" = some 1 := by kernel_rfl
theorem gSynT : (Tryz.prog.globals[1]?).map (·.type) = some 57 := by kernel_rfl
theorem starE : "*" ++ "errors.errorString" = "*errors.errorString" := by decide
theorem rowES (u : TypeId) (h : Tryz.prog.typeName? 3 u = some "*errors.errorString") : u = 115 :=
  typeName_ptr_named (nm := "errors.errorString") (by rw [starE]; kernel_rfl) (by kernel_rfl) (by decide) u (by rw [starE]; exact h)
theorem cES : Tryz.prog.cellsOf 117 = 1 := by kernel_rfl
theorem gl_of {W : World} (h : laidMetH Tryz.prog laid W) : Gl W := by
  have h0 : laidMet Tryz.prog laid W := h
  obtain ⟨a, s, hv, -⟩ := laid_sentinel (r := []) (nm := "*errors.errorString") h0.tail.tail.tail.tail gSyn gSynT Tryz.underlying57 rowES Tryz.underlying115 Tryz.underlying117 rfl rfl Tryz.underlying9 cES cS
  exact ⟨_, _, by simpa using World.var?_cell gSyn hv 0⟩
def cellsD : DataW Unit → Array Value
  | .agg xs => (xs.map fun
    | .lit (.int k n) => Value.int k n
    | _ => undef).toArray
  | _ => #[]
def lay (cs : Array Value) : Obj → Obj
  | .cells _ t frozen => .cells cs t frozen
  | o => o
noncomputable def lowG : Nat := (World.holding Tryz.prog default ⟨#[], #[], []⟩).heap.size
noncomputable def laidWorld (os : Os) : World :=
  let w0 := World.holding Tryz.prog os ⟨#[.cells #[.string (sb [118, 97, 108, 117, 101, 32, 111, 117, 116, 32, 111, 102, 32, 114, 97, 110, 103, 101])] 117, .cells #[.string (sb [105, 110, 118, 97, 108, 105, 100, 32, 115, 121, 110, 116, 97, 120])] 117], #[], []⟩
  { w0 with heap := ((((w0.heap.modify 4 (lay (cellsD Rows.laid_math_bits_deBruijn32tab))).modify 5 (lay (cellsD Rows.laid_math_bits_deBruijn64tab))).modify 3 (lay (cellsD Rows.laid_internal_strconv_uint64pow10))).modify 2 (lay #[.iface 115 (.pointer (some ⟨lowG, 0, none⟩))])).modify 1 (lay #[.iface 115 (.pointer (some ⟨lowG + 1, 0, none⟩))]) }
theorem laid_met (os : Os) : laidMet Tryz.prog laid ((laidWorld os).forCall (fun _ _ => 0) ⟨#[], #[.string ⟨#[]⟩, .string ⟨#[]⟩], []⟩).memory :=
  laidMet_of_run' 8 (by kernel_rfl) (by kernel_rfl)
end Go.Proofs.YthjmkfpdbbfcpaaGreatDoor.DN
