/-
  Package sum: divide, and the document's inner loop.
-/
import Derived.Test.YtlnolnaapnijbaaChecked
import Derived.Test.YtlnolnaapnijbaaKit
import Derived.Test.YtlnolnaapnijbaaCrc
namespace Go.Proofs.Ytlnolnaapnijbaa.S
set_option maxRecDepth 100000
open Go.RowKit K

theorem xor32 {a b : Nat} (ha : a < 4294967296) (hb : b < 4294967296) : bits .xor .u32 (a : Int) (b : Int) = ((a ^^^ b : Nat) : Int) := u32_xor_nat a b ha hb
theorem mask_step {x : Nat} (h : x < 4294967296) : bits .xor .u32 ((x : Int) / 2) (bits .and .u32 3988292384 (-bits .and .u32 (x : Int) 1 % 4294967296)) = ((step x : Nat) : Int) := by
  have e1 : bits .and .u32 (x : Int) 1 = ((x % 2 : Nat) : Int) := by
    have := u32_and_nat x 1 h (by decide)
    rw [nat_mask1] at this
    exact this
  have e2 : ((x : Int) / 2) = ((x / 2 : Nat) : Int) := by omega
  rw [e1, e2]
  unfold step
  rcases Nat.mod_two_eq_zero_or_one x with hx | hx
  · rw [hx, if_neg (by decide)]
    have e3 : bits .and .u32 3988292384 (-((0 : Nat) : Int) % 4294967296) = ((0 : Nat) : Int) := by decide
    rw [e3, xor32 (by omega) (by decide)]
  · rw [hx, if_pos rfl]
    have e3 : bits .and .u32 3988292384 (-((1 : Nat) : Int) % 4294967296) = ((P : Nat) : Int) := by decide
    rw [e3, xor32 (by omega) (by decide)]

set_option maxRecDepth 100000 in
theorem divide_any (r : Nat) (w : World) (hr : r < 4294967296) : Calls Try.prog 123 #[.int .u32 (r : Int)] w fun e w' =>
    e = .returned (.int .u32 (steps 8 r : Nat)) ∧ w = w' := by
  have HR := hid hr; clear hr
  go_enter Try.func123, Try.ntmps123
  go_wp2
  go_loop [0, 3] (fun x k => ∃ n : Nat, n ≤ 8 ∧ k = .int .i64 n ∧ x = .int .u32 (steps n r : Nat)) (fun _ k => 8 - (intOf k).toNat)
  case atStart => exact ⟨0, by omega, rfl, rfl⟩
  case round =>
    obtain ⟨n, hn, rfl, rfl⟩ := hrel
    by_cases hlt : n < 8
    · go_wp2
      go_round
      case rel => exact ⟨n + 1, by omega, by go_num, by rw [mask_step (steps_lt HR.out n)]; rfl⟩
      case measure => simp [intOf]; omega
    · obtain rfl : n = 8 := by omega
      go_wp2
      go_ret
      exact ⟨rfl, rfl⟩
end Go.Proofs.Ytlnolnaapnijbaa.S
