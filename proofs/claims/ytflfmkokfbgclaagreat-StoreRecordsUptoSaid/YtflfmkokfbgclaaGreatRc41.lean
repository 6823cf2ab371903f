/-
  Part 41 of the proof: Bulk.
-/
import Derived.Test.YtflfmkokfbgclaaGreatRows
import Derived.Test.YtflfmkokfbgclaaGreatRc00
set_option linter.unusedSimpArgs false
set_option linter.unusedVariables false
namespace Go.Proofs.YtflfmkokfbgclaaGreat.bulks
set_option maxRecDepth 100000
open Go.RowKit K

theorem bound {H : Type} {l : List (DataW H)} (hk : Rows.uptoSmall H l = true) : Rows.uptoBulkAll l ≤ 1048576 := of_decide_eq_true hk
theorem text_le {P : Program} {W : World} {H : Type} {enc : TypeId × Value → H} {t : TypeId} {s : ByteArray} {d : DataW H} {p : List MemPlace} (hu : P.underlying t = some .string) (h : DataW.Trod enc P W 0 (fun _ => true) true t (.string s) d p) : s.size ≤ Rows.uptoBulk d := by
  obtain ⟨fuel, h⟩ := h
  obtain ⟨s', r1, r2, _⟩ := DataW.trod_string hu h
  have e : s' = s := by simp [Value.cells] at r1; exact r1.symm
  subst e
  have : d = .lit (.string s'.data.toList) := congrArg Prod.fst r2
  rw [this]
  simp [Rows.uptoBulk]
end Go.Proofs.YtflfmkokfbgclaaGreat.bulks
