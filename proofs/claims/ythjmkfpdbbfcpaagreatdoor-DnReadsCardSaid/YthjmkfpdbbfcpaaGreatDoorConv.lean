/-
  Strings to bytes and back. Over any program.
-/
import Derived.Test.YthjmkfpdbbfcpaaGreatDoorBytes
import Derived.Laws.IdiomStrings
set_option linter.unusedVariables false
set_option linter.unusedSimpArgs false
namespace Go.Proofs.YthjmkfpdbbfcpaaGreatDoor.K
set_option maxRecDepth 100000
open Go.RowKit

theorem rangeAt_new (w : World) (C : Array Value) (e : TypeId) (fz : Nat × Nat) (cs : List Value) (h : ∀ (j : Nat) (v : Value), cs[j]? = some v → C[j]? = some v) : (w.alloc (.cells C e fz)).rangeAt w.heap.size 0 cs := by
  intro j v hj
  rw [cell_of_row _ _ _ C e fz (heap_alloc_new w _), Nat.zero_add]
  exact h j v hj
section
variable {P : Program} {ops : Array Oper} {rest : List Oper} {op : Oper} {a : Act} {w : World} {Q : Exit → Act → World → Prop}
/-- '[]byte(s)'. -/
theorem wpL_bytesOf (hgd : op.guard = none) (src dst e : TypeId) (x : Operand) (ho : op.op = .convert src dst x) (s : ByteArray) (hx : a.eval x = .string s)
    (hs : P.underlying src = some .string) (hd : P.underlying dst = some (.slice e)) (he : P.underlying e = some (.int .u8))
    (h : ∀ c w', Hid (BytesIn w' (New w) (.slice (some ⟨w.heap.size, 0, none⟩) s.size c) s.data.toList) → Hid (Fr No w w') → wpList P ops Q rest (a.put op.dst (.slice (some ⟨w.heap.size, 0, none⟩) s.size c)) w') : wpList P ops Q (op :: rest) a w := by
  refine wpList_plain hgd fun K hK => ?_
  have hrun := run_bytes_of_string (P := P) w src dst e s hs hd he
  have h1 := h (grownCap w s.size 0 e) _ (hid ⟨_, _, _, rfl, by simp, grownCap_ge _ _ _ _, .inr ⟨w.heap.size, 0, rfl, Nat.le_refl _, by simp, rangeAt_new w.drew (bytesRow s (grownCap w s.size 0 e)) e ((bytesRow s (grownCap w s.size 0 e)).size, (bytesRow s (grownCap w s.size 0 e)).size + 1) _ (fun j v hj => by
    unfold bytesRow
    have hl : j < s.size := by have := (List.getElem?_eq_some_iff.1 hj).1; simpa [u8s] using this
    rw [Array.getElem?_append_left (by simpa using hl)]
    simpa [u8s] using hj)⟩⟩) (hid ((Fr.refl No w).drew.alloc _))
  unfold Oper.wp
  simp [execOp, ho, hx, hrun, Result.andThen]
  exact hK _ _ h1
/-- 'string(b)'. -/
theorem wpL_stringOf (hgd : op.guard = none) (src dst e : TypeId) (x : Operand) (ho : op.op = .convert src dst x) (v : Value) (E : Nat → Prop) (l : List UInt8) (hx : a.eval x = v) (hb : BytesIn w E v l)
    (hs : P.underlying src = some (.slice e)) (he : P.underlying e = some (.int .u8)) (hd : P.underlying dst = some .string)
    (h : wpList P ops Q rest (a.put op.dst (.string ⟨l.toArray⟩)) w) : wpList P ops Q (op :: rest) a w := by
  refine wpList_plain hgd fun K hK => ?_
  obtain ⟨ad, len, cap, rfl, rfl, _, h3⟩ := hb
  have hrun : (convert src dst (.slice ad l.length cap)).run P w = .ok (.string ⟨l.toArray⟩) w := by
    cases ad with
    | none =>
      have h0 : l = [] := List.eq_nil_of_length_eq_zero (h3.elim id fun ⟨g, o, h4, _⟩ => by cases h4)
      subst h0
      rw [run_convert_bytes_string w src dst e none _ cap hs he hd]
      rfl
    | some ad =>
      refine run_convert_bytes_back w src dst e ad cap l hs he hd fun j hj => ?_
      obtain ⟨g, o, h4, _, _, h5⟩ := h3.resolve_left (by omega)
      cases h4
      rw [Addr.add_mid]
      exact h5 j _ (u8s_get l j hj)
  unfold Oper.wp
  simp [execOp, ho, hx, hrun, Result.andThen]
  exact hK _ _ h
end
end Go.Proofs.YthjmkfpdbbfcpaaGreatDoor.K
