/-
  What each row's proof needs of the program and of its arguments.
-/
import Derived.Test.YtjlellehlcidnaaRows
import Derived.Test.YtjlellehlcidnaaArgs
import Derived.WalkKit
import Derived.ProofKit
import Derived.OpenShut
import Derived.ChangeOld
import Derived.Below
import Derived.SizedLaws
namespace Go.Proofs.Ytjlellehlcidnaa.R
open Go.ChangeShapes Go.WideShapes Go.ChangeAt Go.RowKit K D

theorem own : ownKnob Try.prog.godebug = none := by kernel_rfl
theorem laidOut : laidOutB Try.prog = true := by kernel_rfl

section
variable {H : Type} {enc : TypeId × Value → H} {W W' : World} {v : Value} {d : DataW H} {p : List MemPlace} {ts : List TypeId} {ds : List (DataW H)}
/-- An argument that is a slice of acts, as data; and it reads behind the call as before. -/
theorem arg_acts (h : DataW.Trod enc Try.prog W 0 (fun _ => true) true 22 v d p) (hv : ∃ a l c, v = .slice a l c) (hsz : (DataW.weightsEach Try.prog ts ds).all (· ≤ reachBytes) = true) (j : Nat) (ht : ts[j]? = some 22) (hd : ds[j]? = some d) :
    ∃ xs, ActsIn W W.heap.size v xs := by
  obtain ⟨v', xs, e, hx⟩ := acts_of (reads_of h hsz j ht hd)
  obtain ⟨a, l, c, rfl⟩ := hv
  simp [Value.cells] at e
  subst e
  exact ⟨xs, hx⟩
theorem arg_bytes (h : DataW.Trod enc Try.prog W 0 (fun _ => true) true 32 v d p) (hv : ∃ a l c, v = .slice a l c) (hsz : (DataW.weightsEach Try.prog ts ds).all (· ≤ reachBytes) = true) (j : Nat) (ht : ts[j]? = some 32) (hd : ds[j]? = some d) :
    ∃ xs, BytesIn W (fun k => k < W.heap.size) v xs ∧ xs.length ≤ 140737488351232 := by
  obtain ⟨v', xs, e, hx⟩ := bytes_of (reads_of h hsz j ht hd)
  obtain ⟨a, l, c, rfl⟩ := hv
  simp [Value.cells] at e
  subst e
  exact ⟨xs, hx⟩
theorem arg_bools (h : DataW.Trod enc Try.prog W 0 (fun _ => true) true 33 v d p) (hv : ∃ a l c, v = .slice a l c) (hsz : (DataW.weightsEach Try.prog ts ds).all (· ≤ reachBytes) = true) (j : Nat) (ht : ts[j]? = some 33) (hd : ds[j]? = some d) :
    ∃ xs, BoolsIn W (fun k => k < W.heap.size) v xs ∧ xs.length ≤ 140737488351232 := by
  obtain ⟨v', xs, e, hx⟩ := bools_of (reads_of h hsz j ht hd)
  obtain ⟨a, l, c, rfl⟩ := hv
  simp [Value.cells] at e
  subst e
  exact ⟨xs, hx⟩
theorem again_acts (h : DataW.Trod enc Try.prog W 0 (fun _ => true) true 22 v d p) (hb : Below W.heap.size W W') : DataW.Trod enc Try.prog W' 0 (fun b => decide (b < W.heap.size)) true 22 v d p :=
  Below.trod laidOut (by kernel_rfl) (of_decide_eq_true (by kernel_rfl)) h hb (by obtain ⟨m, hm⟩ := h; exact DataW.trod_lt m _ _ _ hm)
theorem again_bytes (h : DataW.Trod enc Try.prog W 0 (fun _ => true) true 32 v d p) (hb : Below W.heap.size W W') : DataW.Trod enc Try.prog W' 0 (fun b => decide (b < W.heap.size)) true 32 v d p :=
  Below.trod laidOut (by kernel_rfl) (of_decide_eq_true (by kernel_rfl)) h hb (by obtain ⟨m, hm⟩ := h; exact DataW.trod_lt m _ _ _ hm)
theorem again_bools (h : DataW.Trod enc Try.prog W 0 (fun _ => true) true 33 v d p) (hb : Below W.heap.size W W') : DataW.Trod enc Try.prog W' 0 (fun b => decide (b < W.heap.size)) true 33 v d p :=
  Below.trod laidOut (by kernel_rfl) (of_decide_eq_true (by kernel_rfl)) h hb (by obtain ⟨m, hm⟩ := h; exact DataW.trod_lt m _ _ _ hm)
end
end Go.Proofs.Ytjlellehlcidnaa.R
