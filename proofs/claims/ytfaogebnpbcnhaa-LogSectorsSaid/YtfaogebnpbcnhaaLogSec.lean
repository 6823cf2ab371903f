/-
  LogSectors' walk.
-/
import Derived.Test.YtfaogebnpbcnhaaLogS
namespace Go.Proofs.Ytfaogebnpbcnhaa.L
set_option maxRecDepth 100000
open Go.RowKit K

theorem logSectors_walk (w : World) (n : Int) (hn : -9223372036854775808 ≤ n ∧ n ≤ 9223372036854775807) : Calls Try.prog 4 #[.int .i64 n] w fun e w' => e = .returned (.bool true) ∧ Fr No w w' := by
  obtain ⟨h0, h1⟩ := hn
  have H := hid (sectors_any n w h0 h1)
  have R := hid (rsectors_any n w h0 h1)
  by_cases h : 16777216 < n
  · rw [secs_gt (by omega)] at H
    go_enter Try.func4, Try.ntmps4
    go_wp2_with (go_at_call 15; refine H.out.mono ?_; rintro e w' ⟨rfl, rfl⟩)
    go_ret
    refine ⟨?_, Fr.refl _ _⟩
    simp
  · go_enter Try.func4, Try.ntmps4
    go_wp2_with (first | (go_at_call 15; refine H.out.mono ?_; rintro e w' ⟨rfl, rfl⟩) | (go_at_call 16; refine R.out.mono ?_; rintro e w' ⟨rfl, rfl⟩))
    go_ret
    refine ⟨?_, Fr.refl _ _⟩
    simp
end Go.Proofs.Ytfaogebnpbcnhaa.L
