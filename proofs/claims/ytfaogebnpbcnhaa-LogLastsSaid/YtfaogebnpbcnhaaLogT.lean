/-
  An argument that is a slice of texts, as data.
-/
import Derived.Test.YtfaogebnpbcnhaaSumRow
import Derived.Test.YtfaogebnpbcnhaaLogRm
namespace Go.Proofs.Ytfaogebnpbcnhaa.L
set_option maxRecDepth 100000
open Go.RowKit K

theorem texts_of {w : World} {cs : List Value} (h : Reads Try.prog w 44 cs) : ∃ v L, cs = [v] ∧ TextsIn w (fun k => k < w.heap.size) v L ∧ Short L := by
  obtain ⟨a, len, cap, xs, rfl, hl, hb, _, hr⟩ := h.row (fun x : { l : List UInt8 // l.length ≤ 140737488351232 } => str x.1) Try.underlying44 (by kernel_rfl) (fun cs' h' => by
    obtain ⟨s, rfl, hs⟩ := h'.string Try.underlying9
    exact ⟨⟨s.data.toList, Nat.le_trans (Nat.le_of_eq (by simp)) hs⟩, rfl⟩)
  have hle : len ≤ cap := by
    rcases h.slice Try.underlying44 with r | ⟨a', len', cap', r, hle, _⟩
    · simp only [List.cons.injEq, Value.slice.injEq] at r
      omega
    · simp only [List.cons.injEq, Value.slice.injEq] at r
      omega
  refine ⟨_, xs.map (·.1), rfl, ⟨a, len, cap, rfl, by simpa using hl, hle, hr.imp id fun ⟨g, o, h1, h2, h3⟩ => ⟨g, o, h1, h2, h2, by simpa [strs, List.map_map] using h3⟩⟩, fun l hl => ?_⟩
  obtain ⟨x, _, rfl⟩ := List.mem_map.1 hl
  exact x.2
end Go.Proofs.Ytfaogebnpbcnhaa.L
namespace Go.Proofs.Ytfaogebnpbcnhaa.R
open Go.ChangeShapes Go.WideShapes Go.ChangeAt Go.RowKit K L
section
variable {H : Type} {enc : TypeId × Value → H} {W W' : World} {v : Value} {d : DataW H} {p : List MemPlace} {ts : List TypeId} {ds : List (DataW H)}
theorem arg_texts (h : DataW.Trod enc Try.prog W 0 (fun _ => true) true 44 v d p) (hv : ∃ a l c, v = .slice a l c) (hsz : (DataW.weightsEach Try.prog ts ds).all (· ≤ reachBytes) = true) (j : Nat) (ht : ts[j]? = some 44) (hd : ds[j]? = some d) :
    ∃ xs, TextsIn W (fun k => k < W.heap.size) v xs ∧ Short xs := by
  obtain ⟨v', xs, e, hx⟩ := texts_of (reads_of h hsz j ht hd)
  obtain ⟨a, l, c, rfl⟩ := hv
  simp [Value.cells] at e
  subst e
  exact ⟨xs, hx⟩
end
end Go.Proofs.Ytfaogebnpbcnhaa.R
