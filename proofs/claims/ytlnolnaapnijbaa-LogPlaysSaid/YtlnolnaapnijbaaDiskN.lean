/-
  Package disk: a new one.
-/
import Derived.Test.YtlnolnaapnijbaaDiskR
namespace Go.Proofs.Ytlnolnaapnijbaa.D
set_option maxRecDepth 100000
open Go.RowKit K

def zeros : List Int := List.replicate 64 0
def St.new (n : Nat) : St := { L := List.replicate n zeros, P := [], up := true, left := -1 }
theorem new_ok {n : Nat} (h1 : 1 ≤ n) (h2 : n ≤ 4096) : (St.new n).Ok :=
  ⟨by simpa [St.new] using h1, by simpa [St.new] using h2, by intro l hl; obtain ⟨_, rfl⟩ := List.mem_replicate.1 (by simpa [St.new] using hl); rfl, by simp [St.new], by simp [St.new], by simp [St.new]⟩
theorem rows_new (n : Nat) : rowsL (St.new n).L = List.replicate (n * 64) (.int .u8 0) := by
  simp only [rowsL, St.new, u8s, zeros, List.map_replicate, List.flatten_replicate_replicate]
theorem info74z : (Try.prog.info? 117).map (fun i => (i.zero, i.size, i.bytes)) = some (some (.agg zero64.toArray), 64, 64) := by kernel_rfl

theorem new_no (n : Int) (w : World) (h : n < 1 ∨ 4096 < n) : Calls Try.prog 7 #[.int .i64 n] w fun e w' => e = .returned (.tuple #[.pointer none, .int .i64 1]) ∧ w = w' := by
  by_cases h1 : n < 1
  · go_enter Try.func7, Try.ntmps7
    go_wp2
    go_ret2
    exact ⟨rfl, rfl⟩
  · have h2 : 4096 < n := by omega
    clear h
    go_enter Try.func7, Try.ntmps7
    go_wp2
    go_ret2
    exact ⟨rfl, rfl⟩

theorem new_yes (n : Nat) (w : World) (h1 : 1 ≤ n) (h2 : n ≤ 4096) : Calls Try.prog 7 #[.int .i64 n] w fun e w' =>
    ∃ bd D, e = .returned (.tuple #[.pointer (some ⟨bd, 0, none⟩), .int .i64 0]) ∧ At w' bd D (St.new n) ∧ (∀ k, D k → w.heap.size ≤ k) ∧ Fr No w w' := by
  obtain ⟨i, hi, hz0, hz1, hz2⟩ := info_parts info74z
  have HI := hid hi; have HZ0 := hid hz0; have HZ1 := hid hz1; have HZ2 := hid hz2
  clear hi hz0 hz1 hz2
  go_enter Try.func7, Try.ntmps7
  go_wp2_with (first
    | ((with_reducible show wpList _ _ _ ({ dst := _, op := .makeSlice 70 _ _, type := _, pos := _, after := _, guard := _ } :: _) _ _); refine wpL_make rfl _ _ _ rfl _ i _ (.int .u8 0) 64 rfl HI.out HZ0.out rfl (by decide) HZ1.out _ _ n rfl rfl (by rw [HZ2.out]; omega) (by unfold maxLen; omega) ?_; intro w1 HB HF HS)
    | (go_at_call 28; refine (store_any _ _ _ (.int .i64 0) _ (by simp) (by simp)).mono ?_; rintro e w' ⟨rfl, rfl⟩))
  go_ret2
  have B1 := Blk.new w1 78 [.slice (some ⟨w.heap.size, 0, none⟩) n n, .slice none 0 0, .bool true, .int .i64 (-1)]
  have B2 := HB.out.alloc (.cells #[.slice (some ⟨w.heap.size, 0, none⟩) n n, .slice none 0 0, .bool true, .int .i64 (-1)] 78)
  have hS := HS.out
  refine ⟨w1.heap.size, fun k => k = w1.heap.size ∨ k = w.heap.size, rfl, ⟨new_ok h1 h2, w.heap.size, .slice none 0 0, ?_, ?_, World.ownsRow_nil _ _ _ _, by omega, by simp [Value.ownBlock], .inl rfl, .inr rfl, ?_⟩, ?_, HF.out.alloc _⟩
  · simpa [St.new] using B1
  · rw [rows_new]; exact B2
  · intro k hk; simp; omega
  · intro k hk; omega
end Go.Proofs.Ytlnolnaapnijbaa.D
