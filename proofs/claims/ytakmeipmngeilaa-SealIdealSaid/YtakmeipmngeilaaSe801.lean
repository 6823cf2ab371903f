/-
  Part 1 of the proof: SumRow.
-/
import Derived.Test.YtakmeipmngeilaaRows
import Derived.Test.YtakmeipmngeilaaSe800
import Derived.WalkKit
import Derived.ProofKit
import Derived.OpenShut
import Derived.ChangeOld
import Derived.Below
import Derived.SizedLaws
set_option linter.unusedVariables false
set_option linter.unusedSimpArgs false
namespace Go.Proofs.Ytakmeipmngeilaa.R
set_option maxRecDepth 100000
open Go.ChangeShapes Go.WideShapes Go.ChangeAt Go.RowKit K

theorem own : ownKnob Try.prog.godebug = none := by kernel_rfl
theorem laidOut : laidOutB Try.prog = true := by kernel_rfl
theorem u32_of {n : Int} (h : (Lit.int .u32 n).wf = true) : ∃ s : Nat, n = (s : Int) ∧ s < 4294967296 := by
  have hb : 0 ≤ n ∧ n ≤ 4294967295 := by simpa [Lit.wf, IntKind.min, IntKind.max, IntKind.signed, IntKind.bits] using h
  exact ⟨n.toNat, by omega, by omega⟩
theorem i64_of {n : Int} (h : (Lit.int .i64 n).wf = true) : -9223372036854775808 ≤ n ∧ n ≤ 9223372036854775807 := by
  simpa [Lit.wf, IntKind.min, IntKind.signed, IntKind.bits] using h
section
variable {H : Type} {enc : TypeId × Value → H} {W W' : World} {v : Value} {d : DataW H} {p : List MemPlace} {ts : List TypeId} {ds : List (DataW H)}
theorem arg_bytes (h : DataW.Trod enc Try.prog W 0 (fun _ => true) true 38 v d p) (hv : ∃ a l c, v = .slice a l c) (hsz : (DataW.weightsEach Try.prog ts ds).all (· ≤ reachBytes) = true) (j : Nat) (ht : ts[j]? = some 38) (hd : ds[j]? = some d) :
    ∃ xs, BytesIn W (fun k => k < W.heap.size) v xs ∧ xs.length ≤ 140737488351232 := by
  obtain ⟨v', xs, e, hx⟩ := (reads_of h hsz j ht hd).u8s Try.underlying38 Try.underlying5 (by kernel_rfl) (by kernel_rfl)
  obtain ⟨a, l, c, rfl⟩ := hv
  simp [Value.cells] at e
  subst e
  exact ⟨xs, hx⟩
theorem arg_text {t : TypeId} (hu : Try.prog.underlying t = some .string) (h : DataW.Trod enc Try.prog W 0 (fun _ => true) true t v d p) (hv : ∃ s, v = .string s) (hsz : (DataW.weightsEach Try.prog ts ds).all (· ≤ reachBytes) = true) (j : Nat) (ht : ts[j]? = some t) (hd : ds[j]? = some d) :
    ∃ s, v = .string s ∧ s.size ≤ 140737488351232 := by
  obtain ⟨s, e, hs⟩ := (reads_of h hsz j ht hd).string hu
  obtain ⟨s', rfl⟩ := hv
  simp [Value.cells] at e
  subst e
  exact ⟨s', rfl, hs⟩
/-- What was there reads behind the call as before. -/
theorem again {t : TypeId} (hr : Try.prog.readableRec t = true) (hrow : t < Try.prog.types.size) (h : DataW.Trod enc Try.prog W 0 (fun _ => true) true t v d p) (hb : Below W.heap.size W W') : DataW.Trod enc Try.prog W' 0 (fun b => decide (b < W.heap.size)) true t v d p :=
  Below.trod laidOut hr hrow h hb (by obtain ⟨m, hm⟩ := h; exact DataW.trod_lt m _ _ _ hm)
end
end Go.Proofs.Ytakmeipmngeilaa.R
