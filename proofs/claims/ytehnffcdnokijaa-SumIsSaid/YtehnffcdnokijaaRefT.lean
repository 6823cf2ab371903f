/-
  The document's sums: Sum, Text.
-/
import Derived.Test.YtehnffcdnokijaaRefA
import Derived.Test.YtehnffcdnokijaaConv
namespace Go.Proofs.Ytehnffcdnokijaa.S
open Go.RowKit K

theorem radd_any (s : Nat) (l : List UInt8) (v : Value) (w : World) {E : Nat → Prop} (hs : s < 4294967296) (hb : BytesIn w E v l) (hl : l.length ≤ 9223372036854775807) : Calls Try.prog 10 #[.int .u32 (s : Int), v] w fun e w' =>
    e = .returned (.int .u32 (add s l : Nat)) ∧ w = w' := by
  obtain ⟨a, cap, rfl, _, h⟩ := at_of hb
  exact radd_at s l a cap w hs h hl
theorem rsum_any (l : List UInt8) (v : Value) (w : World) {E : Nat → Prop} (hb : BytesIn w E v l) (hl : l.length ≤ 9223372036854775807) : Calls Try.prog 11 #[v] w fun e w' =>
    e = .returned (.int .u32 (add 0 l : Nat)) ∧ w = w' := by
  have HA := hid (radd_any 0 l v w (by decide) hb hl)
  clear hb
  go_enter Try.func11, Try.ntmps11
  go_wp2_with (go_at_call 10; refine HA.out.mono ?_; rintro e w' ⟨rfl, rfl⟩)
  go_ret
  exact ⟨rfl, rfl⟩
theorem rtext_any (t : ByteArray) (w : World) (hl : t.size ≤ 9223372036854775807) : Calls Try.prog 12 #[.string t] w fun e w' =>
    e = .returned (.int .u32 (add 0 t.data.toList : Nat)) ∧ Fr No w w' := by
  go_enter Try.func12, Try.ntmps12
  go_wp2_with ((with_reducible show wpList _ _ _ ({ dst := _, op := .convert _ 23 _, type := _, pos := _, after := _, guard := _ } :: _) _ _); refine wpL_bytesOf rfl _ _ 5 _ rfl t rfl Try.underlying9 Try.underlying23 Try.underlying5 ?_; intro c w1 HB1 HF1)
  have HA := hid (radd_any 0 t.data.toList (.slice (some ⟨w.heap.size, 0, none⟩) t.size c) w1 (by decide) HB1.out (by simpa using hl))
  refine HA.out.mono ?_
  rintro e w' ⟨rfl, rfl⟩
  go_wp2
  go_ret
  exact ⟨rfl, HF1.out⟩
end Go.Proofs.Ytehnffcdnokijaa.S
