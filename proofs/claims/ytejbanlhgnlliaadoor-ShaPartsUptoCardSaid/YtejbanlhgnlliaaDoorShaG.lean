/-
  The program's sha: its two tables, and a word turned to the right.
-/
import Derived.Test.YtejbanlhgnlliaaDoorShaP
import Derived.Test.YtejbanlhgnlliaaDoorShaR
namespace Go.Proofs.YtejbanlhgnlliaaDoor.SH
set_option maxRecDepth 100000
open Go.RowKit K AR

/-- The two tables lie as they were laid. -/
def Gl (w : World) : Prop := w.rangeAt 0 0 (bw .u32 h0 8) ∧ w.rangeAt 1 0 (bw .u32 kc 64)
/-- No table. -/
def NoG (D : Nat → Prop) : Prop := ¬ D 0 ∧ ¬ D 1
theorem Gl.fr {D : Nat → Prop} {w w' : World} (h : Gl w) (hf : Fr D w w') (hd : NoG D) : Gl w' := ⟨hf.range h.1 hd.1, hf.range h.2 hd.2⟩
theorem Gl.no {w w' : World} (h : Gl w) (hf : Fr No w w') : Gl w' := h.fr hf ⟨id, id⟩
theorem Gl.drew {w : World} (h : Gl w) : Gl w.drew := h
theorem Gl.size {w : World} (h : Gl w) : 0 < w.heap.size ∧ 1 < w.heap.size :=
  ⟨World.block_lt_of_cell? w _ (h.1 0 _ (bw_get h0 (by decide))), World.block_lt_of_cell? w _ (h.2 0 _ (bw_get kc (by decide)))⟩
theorem Gl.one {w : World} (h : Gl w) {b : Nat} (hb : 0 ≠ b ∧ 1 ≠ b) : NoG (fun k => k = b) := hb
theorem Gl.kc {w : World} (h : Gl w) {i : Nat} (hi : i < 64) : w.cell? ⟨1, i, none⟩ = some (.int .u32 (kc i : Int)) := by
  have := h.2 i _ (bw_get SH.kc hi)
  rwa [Nat.zero_add] at this

theorem R_eq' {x n : Nat} (hx : x < 4294967296) : bits .or .u32 ((x : Int) * 2 ^ (32 - n) % 4294967296) ((x : Int) / 2 ^ n) = ((R n x : Nat) : Int) := by
  have e1 : ((x : Int) / 2 ^ n) = ((x / 2 ^ n : Nat) : Int) := by simp
  have e2 : ((x : Int) * 2 ^ (32 - n) % 4294967296) = ((x * 2 ^ (32 - n) % 4294967296 : Nat) : Int) := by simp
  rw [e1, e2, or32 (Nat.mod_lt _ (by decide)) (Nat.lt_of_le_of_lt (Nat.div_le_self _ _) hx), Nat.or_comm]
  rfl
theorem turn_bits : ∀ n : Nat, n < 32 → 0 < n → bits .and .u64 (IntKind.u64.wrap (-(n : Int))) 31 = ((32 - n : Nat) : Int) := by decide +kernel
theorem turn_any (x n : Nat) (w : World) (hx : x < 4294967296) (h0 : 0 < n) (hn : n < 32) : Calls Tryd.prog 30 #[.int .u32 (x : Int), .int .i64 (-(n : Int))] w fun e w' =>
    e = .returned (.int .u32 (R n x : Nat)) ∧ w' = w := by
  have HX := hid hx; clear hx
  have hb := turn_bits n hn h0
  obtain ⟨m, hm⟩ : ∃ m, 32 - n = m := ⟨_, rfl⟩
  rw [hm] at hb
  have HM := hid hm
  have hm32 : m ≤ 31 := by omega
  have hs : ((32 : Int) - (m : Int)) = (n : Int) := by omega
  have HR : Hid (bits .or .u32 ((x : Int) * 2 ^ m % 4294967296) ((x : Int) / 2 ^ n) = ((R n x : Nat) : Int)) := by
    have := R_eq' (n := n) HX.out
    rw [hm] at this
    exact hid this
  clear hm
  go_enter Tryd.func30, Tryd.ntmps30
  go_wp2
  go_ret
  refine ⟨?_, rfl⟩
  exact congrArg (fun v => Ending.returned (.int .u32 v)) HR.out
theorem right_any (x n : Nat) (w : World) (hx : x < 4294967296) (h0 : 0 < n) (hn : n < 32) : Calls Tryd.prog 29 #[.int .u32 (x : Int), .int .i64 (n : Int)] w fun e w' =>
    e = .returned (.int .u32 (R n x : Nat)) ∧ w' = w := by
  have HX := hid hx; clear hx
  go_enter Tryd.func29, Tryd.ntmps29
  go_wp2_with fail
  refine (turn_any x n _ HX.out h0 hn).mono ?_
  rintro e w1 ⟨rfl, rfl⟩
  go_wp2_with fail
  go_ret
  exact ⟨rfl, rfl⟩
end Go.Proofs.YtejbanlhgnlliaaDoor.SH
