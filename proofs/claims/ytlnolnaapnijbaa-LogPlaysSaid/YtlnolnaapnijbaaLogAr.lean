/-
  An argument that is a slice of acts, as data.
-/
import Derived.Test.YtlnolnaapnijbaaSumRow
import Derived.Test.YtlnolnaapnijbaaLogAc
namespace Go.Proofs.Ytlnolnaapnijbaa.R
set_option maxRecDepth 100000
open Go.ChangeShapes Go.WideShapes Go.ChangeAt Go.RowKit K L
section
variable {H : Type} {enc : TypeId × Value → H} {W W' : World} {v : Value} {d : DataW H} {p : List MemPlace} {ts : List TypeId} {ds : List (DataW H)}
theorem arg_acts (h : DataW.Trod enc Try.prog W 0 (fun _ => true) true 23 v d p) (hv : ∃ a l c, v = .slice a l c) (hsz : (DataW.weightsEach Try.prog ts ds).all (· ≤ reachBytes) = true) (j : Nat) (ht : ts[j]? = some 23) (hd : ds[j]? = some d) :
    ∃ xs, LasIn W W.heap.size v xs := by
  obtain ⟨v', xs, e, hx⟩ := acts_of (reads_of h hsz j ht hd)
  obtain ⟨a, l, c, rfl⟩ := hv
  simp [Value.cells] at e
  subst e
  exact ⟨xs, hx⟩
end
end Go.Proofs.Ytlnolnaapnijbaa.R
