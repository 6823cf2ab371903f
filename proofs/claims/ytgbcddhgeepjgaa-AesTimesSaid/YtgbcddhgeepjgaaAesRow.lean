/-
  What the rows of stage 6 need of the program and of its arguments.
-/
import Derived.Test.YtgbcddhgeepjgaaRows
import Derived.Test.YtgbcddhgeepjgaaAesA
import Derived.Test.YtgbcddhgeepjgaaOpen
import Derived.Test.YtgbcddhgeepjgaaChecked
import Derived.WalkKit
import Derived.ProofKit
import Derived.OpenShut
import Derived.ChangeOld
import Derived.Below
import Derived.SizedLaws
namespace Go.Proofs.Ytgbcddhgeepjgaa.AE
set_option maxRecDepth 100000
open Go.ChangeShapes Go.WideShapes Go.ChangeAt Go.RowKit K

theorem own : ownKnob Try.prog.godebug = none := by kernel_rfl
theorem laidOut : laidOutB Try.prog = true := by kernel_rfl
theorem u8_of {n : Int} (h : (Lit.int .u8 n).wf = true) : ∃ s : Nat, n = (s : Int) ∧ s < 256 := by
  have hb : 0 ≤ n ∧ n ≤ 255 := by simpa [Lit.wf, IntKind.min, IntKind.max, IntKind.signed, IntKind.bits] using h
  exact ⟨n.toNat, by omega, by omega⟩
section
variable {H : Type} {enc : TypeId × Value → H} {W W' : World} {v : Value} {d : DataW H} {p : List MemPlace} {ts : List TypeId} {ds : List (DataW H)}
theorem okWide_array {P : Program} {w : World} {r : Reach} {base : Nat} {t e : TypeId} {n : Nat} (ht : P.underlying t = some (.array n e)) (h : Value.okWide P w r base t v) : ∃ cs, v = .agg cs := by
  simp only [Value.okWide, ht] at h
  obtain ⟨cs, h1, _⟩ := h
  exact ⟨cs, h1⟩
theorem row_of {l : List Value} {n : Nat} (hl : l.length = n) (h : ∀ i, i < n → ∃ x : Nat, l[i]? = some (.int .u8 (x : Int)) ∧ x < 256) : ∃ f, By f ∧ l = b8 f n := by
  obtain ⟨xs, hx1, hx2⟩ := list_of n h
  refine ⟨fun i => xs.getD i 0, fun i => ?_, List.ext_getElem? fun i => ?_⟩
  · show xs.getD i 0 < 256
    by_cases hi : i < xs.length
    · have := hx2 i xs[i] (by simp [hi])
      simpa [List.getD, hi] using this.2
    · simp [List.getD, List.getElem?_eq_none (Nat.le_of_not_lt hi)]
  · by_cases hi : i < n
    · have := hx2 i (xs[i]'(by omega)) (by simp [hx1, hi])
      rw [this.1, b8_get _ hi]
      simp [List.getD, hx1, hi]
    · rw [List.getElem?_eq_none (by omega), List.getElem?_eq_none (by simp; omega)]
theorem arg_blk (h : DataW.Trod enc Try.prog W 0 (fun _ => true) true 27 v d p) (hv : ∃ cs, v = .agg cs) (hsz : (DataW.weightsEach Try.prog ts ds).all (· ≤ reachBytes) = true) (j : Nat) (ht : ts[j]? = some 27) (hd : ds[j]? = some d) :
    ∃ f, By f ∧ v = bk f 16 := by
  obtain ⟨hl, hr⟩ := (reads_of h hsz j ht hd).array Try.underlying27
  obtain ⟨cs, rfl⟩ := hv
  have hc : Try.prog.cellsOf 5 = 1 := by kernel_rfl
  have hc16 : Try.prog.cellsOf 27 = 16 := by kernel_rfl
  rw [hc16] at hl
  obtain ⟨f, hf, e⟩ := row_of hl fun i hi => by
    obtain ⟨n, e, hw⟩ := (hr i hi).int Try.underlying5
    rw [hc, Nat.mul_one] at e
    obtain ⟨x, rfl, hx⟩ := u8_of hw
    refine ⟨x, ?_, hx⟩
    have h0 : (((Value.agg cs).cells.toList.drop i).take 1)[0]? = some (.int .u8 (x : Int)) := by rw [e]; rfl
    simpa [List.getElem?_take, List.getElem?_drop] using h0
  refine ⟨f, hf, ?_⟩
  have : cs = (b8 f 16).toArray := by
    have h1 : cs.toList = b8 f 16 := by simpa [Value.cells] using e
    rw [← h1]
  rw [this]
  rfl
/-- What was there reads behind the call as before. -/
theorem again {t : TypeId} (hr : Try.prog.readableRec t = true) (hrow : t < Try.prog.types.size) (h : DataW.Trod enc Try.prog W 0 (fun _ => true) true t v d p) (hb : Below W.heap.size W W') : DataW.Trod enc Try.prog W' 0 (fun b => decide (b < W.heap.size)) true t v d p :=
  Below.trod laidOut hr hrow h hb (by obtain ⟨m, hm⟩ := h; exact DataW.trod_lt m _ _ _ hm)
end
end Go.Proofs.Ytgbcddhgeepjgaa.AE
