/-
  How many sectors a record has: the program's answer and the document's.
-/
import Derived.Test.YtlnolnaapnijbaaChecked
import Derived.Test.YtlnolnaapnijbaaKit
namespace Go.Proofs.Ytlnolnaapnijbaa.L
set_option maxRecDepth 100000
open Go.RowKit K

/-- O1. -/
def secs (n : Int) : Int := if n ≤ 48 then 1 else (n - 1) / 48 + 1
theorem secs_le {n : Int} (h : n ≤ 48) : secs n = 1 := if_pos h
theorem secs_gt {n : Int} (h : ¬ n ≤ 48) : secs n = (n - 1) / 48 + 1 := if_neg h

theorem sectors_any (n : Int) (w : World) (h0 : -9223372036854775808 ≤ n) (h1 : n ≤ 9223372036854775807) : Calls Try.prog 58 #[.int .i64 n] w fun e w' => e = .returned (.int .i64 (secs n)) ∧ w = w' := by
  by_cases h : n ≤ 48
  · rw [secs_le h]
    go_enter Try.func58, Try.ntmps58
    go_wp2
    go_ret
    exact ⟨rfl, rfl⟩
  · rw [secs_gt h]
    have h2 : 48 < n := by omega
    go_enter Try.func58, Try.ntmps58
    go_wp2
    go_ret
    refine ⟨?_, rfl⟩
    first | rfl | (rw [Int.tdiv_eq_ediv_of_nonneg (by omega)])

theorem rsectors_any (n : Int) (w : World) (h0 : -9223372036854775808 ≤ n) (h1 : n ≤ 9223372036854775807) : Calls Try.prog 65 #[.int .i64 n] w fun e w' => e = .returned (.int .i64 (secs n)) ∧ w = w' := by
  go_enter Try.func65, Try.ntmps65
  go_wp2_with fail
  go_loop [0, 3] (fun b k => ∃ j : Nat, k = .int .i64 (1 + (j : Int)) ∧ b = .int .i64 (n - 48 * j) ∧ (j = 0 ∨ 0 < n - 48 * (j : Int))) (fun b _ => (intOf b).toNat)
  case atStart => exact ⟨0, rfl, by simp, .inl rfl⟩
  case round =>
    obtain ⟨j, rfl, rfl, hj⟩ := hrel
    by_cases hlt : 48 < n - 48 * (j : Int)
    · go_wp2
      go_round
      case rel => exact ⟨j + 1, by go_num, by go_num, .inr (by omega)⟩
      case measure => simp [intOf]; omega
    · go_wp2
      go_ret
      refine ⟨?_, rfl⟩
      have : 1 + (j : Int) = secs n := by
        unfold secs
        split <;> omega
      rw [this]
      rfl
end Go.Proofs.Ytlnolnaapnijbaa.L
