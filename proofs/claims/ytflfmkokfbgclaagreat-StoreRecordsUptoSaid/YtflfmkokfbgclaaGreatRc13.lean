/-
  Part 13 of the proof: TrRow.
-/
import Derived.Test.YtflfmkokfbgclaaGreatRows
import Derived.Test.YtflfmkokfbgclaaGreatRc00
import Derived.Test.YtflfmkokfbgclaaGreatRc12
import Derived.WalkKit
import Derived.ProofKit
import Derived.OpenShut
import Derived.ChangeOld
import Derived.Below
import Derived.SizedLaws
set_option linter.unusedSimpArgs false
set_option linter.unusedVariables false
namespace Go.Proofs.YtflfmkokfbgclaaGreat.TR
set_option maxRecDepth 100000
open Go.ChangeShapes Go.WideShapes Go.ChangeAt Go.RowKit K

theorem owns : ownKnob Tryz.prog.godebug = none := by kernel_rfl
theorem laidOut : laidOutB Tryz.prog = true := by kernel_rfl
section
variable {H : Type} {enc : TypeId × Value → H} {W W' : World} {v : Value} {d : DataW H} {p : List MemPlace} {ts : List TypeId} {ds : List (DataW H)}
theorem arg_text {t : TypeId} (hu : Tryz.prog.underlying t = some .string) (h : DataW.Trod enc Tryz.prog W 0 (fun _ => true) true t v d p) (hv : ∃ s, v = .string s) (hsz : (DataW.weightsEach Tryz.prog ts ds).all (· ≤ reachBytes) = true) (j : Nat) (ht : ts[j]? = some t) (hd : ds[j]? = some d) :
    ∃ s, v = .string s ∧ s.size ≤ 140737488351232 := by
  obtain ⟨s, e, hs⟩ := (reads_of h hsz j ht hd).string hu
  obtain ⟨s', rfl⟩ := hv
  simp [Value.cells] at e
  subst e
  exact ⟨s', rfl, hs⟩
/-- What was there reads behind the call as before. -/
theorem again {t : TypeId} (hr : Tryz.prog.readableRec t = true) (hrow : t < Tryz.prog.types.size) (h : DataW.Trod enc Tryz.prog W 0 (fun _ => true) true t v d p) (hb : Go.RowKit.Below W.heap.size W W') : DataW.Trod enc Tryz.prog W' 0 (fun b => decide (b < W.heap.size)) true t v d p :=
  Go.RowKit.Below.trod laidOut hr hrow h hb (by obtain ⟨m, hm⟩ := h; exact DataW.trod_lt m _ _ _ hm)
end
theorem one9 : Tryz.prog.cellsOf 9 = 1 := by kernel_rfl
/-- Texts in memory. -/
def StAt (w : World) (v : Value) (l : List S) : Prop := ∃ a c, v = .slice a l.length c ∧ l.length ≤ 140737488351232 ∧ (l = [] ∨ ∃ g o, a = some ⟨g, o, none⟩ ∧ g < w.heap.size ∧ w.rangeAt g o (l.map Value.string))
theorem StAt.no {w w' : World} {v : Value} {l : List S} (h : StAt w v l) (hf : Fr No w w') : StAt w' v l := by
  obtain ⟨a, c, e, hn, h⟩ := h
  refine ⟨a, c, e, hn, h.imp id ?_⟩
  rintro ⟨g, o, e, hg, hr⟩
  exact ⟨g, o, e, Nat.lt_of_lt_of_le hg hf.size, hf.range hr id⟩
section
variable {H : Type} {enc : TypeId × Value → H} {W W' : World} {v : Value} {d : DataW H} {p : List MemPlace} {ts : List TypeId} {ds : List (DataW H)}
end
end Go.Proofs.YtflfmkokfbgclaaGreat.TR
