/-
  For an Upto statement: what the bound on the arguments' bulk gives of a slice's length.
-/
import Derived.Test.YthjmkfpdbbfcpaaGreatDoorRows
import Derived.Test.YthjmkfpdbbfcpaaGreatDoorBytes
set_option linter.unusedVariables false
set_option linter.unusedSimpArgs false
namespace Go.Proofs.YthjmkfpdbbfcpaaGreatDoor.bulks
set_option maxRecDepth 100000
open Go.RowKit K

theorem length_le {H : Type} : ∀ l : List (DataW H), l.length ≤ Rows.uptoBulkAll l
  | [] => Nat.zero_le _
  | x :: r => by
    have h0 : 1 ≤ Rows.uptoBulk x := by
      cases x with
      | lit l => cases l <;> simp [Rows.uptoBulk]
      | nil => simp [Rows.uptoBulk]
      | ptr d => simp [Rows.uptoBulk]
      | slice elems spare => simp [Rows.uptoBulk]
      | agg parts => simp [Rows.uptoBulk]
      | iface t d => simp [Rows.uptoBulk]
      | map entries => simp [Rows.uptoBulk]
      | held h => simp [Rows.uptoBulk]
    have := length_le r
    simp only [Rows.uptoBulkAll, List.length_cons]; omega
theorem bound {H : Type} {l : List (DataW H)} (hk : Rows.uptoSmall H l = true) : Rows.uptoBulkAll l ≤ 1048576 := of_decide_eq_true hk
theorem bytes_le {P : Program} {W : World} {H : Type} {enc : TypeId × Value → H} {t e : TypeId} {v : Value} {d : DataW H} {p : List MemPlace} (hu : P.underlying t = some (.slice e)) (h : DataW.Trod enc P W 0 (fun _ => true) true t v d p)
    (xs : List UInt8) {E : Nat → Prop} (hx : BytesIn W E v xs) : xs.length ≤ Rows.uptoBulk d := by
  obtain ⟨fuel, h⟩ := h
  obtain ⟨a', len', cap', rfl, hl, _, _⟩ := hx
  rcases DataW.trod_slice hu h with ⟨r, _⟩ | ⟨a, len, cap, elems, rest, n, _, r1, r2, _, _, _, hlen, _⟩
  · simp [Value.cells] at r
    omega
  · simp [Value.cells] at r1
    have : d = .slice (elems.map (·.1)) (rest.map (·.1)) := congrArg Prod.fst r2
    rw [this]
    simp only [Rows.uptoBulk]
    have := length_le (elems.map (·.1))
    simp at this
    omega
theorem slice_le {P : Program} {W : World} {H : Type} {enc : TypeId × Value → H} {t e : TypeId} {a : Option Addr} {k c : Nat} {d : DataW H} {p : List MemPlace} (hu : P.underlying t = some (.slice e)) (h : DataW.Trod enc P W 0 (fun _ => true) true t (.slice a k c) d p) : k ≤ Rows.uptoBulk d := by
  obtain ⟨fuel, h⟩ := h
  rcases DataW.trod_slice hu h with ⟨r, _⟩ | ⟨a, len, cap, elems, rest, n, _, r1, r2, _, _, _, hlen, _⟩
  · simp [Value.cells] at r
    omega
  · simp [Value.cells] at r1
    have : d = .slice (elems.map (·.1)) (rest.map (·.1)) := congrArg Prod.fst r2
    rw [this]
    simp only [Rows.uptoBulk]
    have := length_le (elems.map (·.1))
    simp at this
    omega
theorem text_le {P : Program} {W : World} {H : Type} {enc : TypeId × Value → H} {t : TypeId} {s : ByteArray} {d : DataW H} {p : List MemPlace} (hu : P.underlying t = some .string) (h : DataW.Trod enc P W 0 (fun _ => true) true t (.string s) d p) : s.size ≤ Rows.uptoBulk d := by
  obtain ⟨fuel, h⟩ := h
  obtain ⟨s', r1, r2, _⟩ := DataW.trod_string hu h
  have e : s' = s := by simp [Value.cells] at r1; exact r1.symm
  subst e
  have : d = .lit (.string s'.data.toList) := congrArg Prod.fst r2
  rw [this]
  simp [Rows.uptoBulk]
end Go.Proofs.YthjmkfpdbbfcpaaGreatDoor.bulks
