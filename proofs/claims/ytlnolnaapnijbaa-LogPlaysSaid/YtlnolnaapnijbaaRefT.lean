/-
  The document's sums: Sum, Text.
-/
import Derived.Test.YtlnolnaapnijbaaRefA
import Derived.Test.YtlnolnaapnijbaaConv
namespace Go.Proofs.Ytlnolnaapnijbaa.S
set_option maxRecDepth 100000
open Go.RowKit K

theorem radd_any (s : Nat) (l : List UInt8) (v : Value) (w : World) {E : Nat → Prop} (hs : s < 4294967296) (hb : BytesIn w E v l) (hl : l.length ≤ 9223372036854775807) : Calls Try.prog 94 #[.int .u32 (s : Int), v] w fun e w' =>
    e = .returned (.int .u32 (add s l : Nat)) ∧ w = w' := by
  obtain ⟨a, cap, rfl, _, h⟩ := at_of hb
  exact radd_at s l a cap w hs h hl
theorem rsum_any (l : List UInt8) (v : Value) (w : World) {E : Nat → Prop} (hb : BytesIn w E v l) (hl : l.length ≤ 9223372036854775807) : Calls Try.prog 70 #[v] w fun e w' =>
    e = .returned (.int .u32 (add 0 l : Nat)) ∧ w = w' := by
  have HA := hid (radd_any 0 l v w (by decide) hb hl)
  clear hb
  go_enter Try.func70, Try.ntmps70
  go_wp2_with (go_at_call 94; refine HA.out.mono ?_; rintro e w' ⟨rfl, rfl⟩)
  go_ret
  exact ⟨rfl, rfl⟩
end Go.Proofs.Ytlnolnaapnijbaa.S
