/-
  Package log: does a sector continue the log?
-/
import Derived.Test.YtlnolnaapnijbaaLogR
namespace Go.Proofs.Ytlnolnaapnijbaa.L
set_option maxRecDepth 100000
open Go.RowKit K

def cont (g : Lg) (s : Sec) (begins : Bool) (last : Nat) : Bool :=
  decide (s.epoch = g.epoch) && decide (s.life < g.life) && decide (s.size ≤ 48) && decide (s.kind ≤ 3) && (begins == decide (s.kind % 2 = 1)) && decide (last ≤ s.life) && (begins || decide (s.life = last)) && (decide (s.kind / 2 = 1) || decide (s.size = 48))
structure Sec.Ok (s : Sec) : Prop where
  ep : s.epoch < 4294967296
  li : s.life < 4294967296
  pl : s.place < 65536
  kd : s.kind < 256
  sz : s.size < 256
  by48 : s.bytes.length = 48
theorem look_ok {b : List UInt8} (h : b.length = 64) : (look b).Ok :=
  ⟨Nat.lt_of_lt_of_le (nm_lt _) (Nat.pow_le_pow_right (by decide) (by simp; omega) : 256 ^ ((b.drop 4).take 4).length ≤ 256 ^ 4),
   Nat.lt_of_lt_of_le (nm_lt _) (Nat.pow_le_pow_right (by decide) (by simp; omega) : 256 ^ ((b.drop 8).take 4).length ≤ 256 ^ 4),
   Nat.lt_of_lt_of_le (nm_lt _) (Nat.pow_le_pow_right (by decide) (by simp; omega) : 256 ^ ((b.drop 12).take 2).length ≤ 256 ^ 2),
   Nat.lt_of_lt_of_le (nm_lt _) (Nat.pow_le_pow_right (by decide) (by simp; omega) : 256 ^ ((b.drop 14).take 1).length ≤ 256 ^ 1),
   Nat.lt_of_lt_of_le (nm_lt _) (Nat.pow_le_pow_right (by decide) (by simp; omega) : 256 ^ ((b.drop 15).take 1).length ≤ 256 ^ 1), by simp [look, h]⟩

theorem and_one {k : Nat} (h : k ≤ 3) : bits .and .i64 (k : Int) 1 = ((k % 2 : Nat) : Int) := by
  obtain rfl | rfl | rfl | rfl : k = 0 ∨ k = 1 ∨ k = 2 ∨ k = 3 := by omega
  all_goals decide
theorem and_two {k : Nat} (h : k ≤ 3) : bits .and .i64 (k : Int) 2 = ((k / 2 * 2 : Nat) : Int) := by
  obtain rfl | rfl | rfl | rfl : k = 0 ∨ k = 1 ∨ k = 2 ∨ k = 3 := by omega
  all_goals decide
set_option maxHeartbeats 4000000 in
theorem continues_any (w : World) (bg bd : Nat) (Z : Nat → Prop) (g : Lg) (u : U) (s : Sec) (begins : Bool) (last : Nat) (h : At w bg bd Z g u) (hs : s.Ok) (hl : last < 4294967296) :
    Calls Try.prog 87 #[.pointer (some ⟨bg, 0, none⟩), .agg (secCells s).toArray, .bool begins, .int .u32 last] w fun e w' => e = .returned (.bool (cont g s begins last)) ∧ Fr No w w' := by
  obtain ⟨s1, s2, s3, s4, s5, s6⟩ := hs
  have c3 : w.cell? ⟨bg, 3, none⟩ = some (.int .u32 g.epoch) := h.2.1.cell 3
  have c4 : w.cell? ⟨bg, 4, none⟩ = some (.int .u32 g.life) := h.2.1.cell 4
  have g3 := h.2.2.2.ep
  have g4 := h.2.2.2.li
  have HBG : Hid (bg < w.heap.size) := hid h.2.1.lt
  clear h
  by_cases h1 : s.epoch = g.epoch
  · have b1 : ((s.epoch : Int) != (g.epoch : Int)) = false := by rw [h1]; simp
    by_cases h2 : s.life < g.life
    · have b2 : decide ((g.life : Int) ≤ (s.life : Int)) = false := by simp; omega
      have b2' : decide (g.life ≤ s.life) = false := by simp; omega
      by_cases h3 : s.size ≤ 48
      · have b3 : decide ((48 : Int) < (s.size : Int)) = false := by simp; omega
        have b3' : decide (48 < s.size) = false := by simp; omega
        by_cases h4 : s.kind ≤ 3
        · have b4 : decide ((3 : Int) < (s.kind : Int)) = false := by simp; omega
          have b4' : decide (3 < s.kind) = false := by simp; omega
          have HC : Hid (cont g s begins last = ((begins == decide (s.kind % 2 = 1)) && decide (last ≤ s.life) && (begins || decide (s.life = last)) && (decide (s.kind / 2 = 1) || decide (s.size = 48)))) := hid (by simp [cont, h1, h2, h3, h4])
          go_enter Try.func87, Try.ntmps87
          go_wp2_with ((with_reducible show wpList _ _ _ ({ dst := _, op := .box 114 _, type := _, pos := _, after := _, guard := _ } :: _) _ _); refine wpL_box rfl _ _ rfl _ rfl (secCells s) rfl ?_; intro w1 HB1 HF1 HS1)
          have d0 : w1.cell? ⟨w.heap.size, 0, none⟩ = some (.int .u32 s.epoch) := HB1.out.cell 0
          have d1 : w1.cell? ⟨w.heap.size, 1, none⟩ = some (.int .u32 s.life) := HB1.out.cell 1
          have d3 : w1.cell? ⟨w.heap.size, 3, none⟩ = some (.int .i64 s.kind) := HB1.out.cell 3
          have d4 : w1.cell? ⟨w.heap.size, 4, none⟩ = some (.int .i64 s.size) := HB1.out.cell 4
          replace c3 := HF1.out.cell c3 id
          replace c4 := HF1.out.cell c4 id
          go_quiet (fail)
          go_wp2_with fail
          all_goals
            go_ret
            refine ⟨?_, HF1.out.drewN _⟩
            rw [HC.out]
            have a1 := and_one h4
            have a2 := and_two h4
            simp only [a1, a2] at *
            clear HC HB1 HF1 HS1 HBG d0 d1 d3 d4 c3 c4
            refine congrArg (fun b => Ending.returned (.bool b)) (?_ : _ = _)
            have hk : s.kind = 0 ∨ s.kind = 1 ∨ s.kind = 2 ∨ s.kind = 3 := by omega
            clear a1 a2 b1 b2 b2' b3 b3' b4 b4' g3 g4 s1 s2 s3 s4 s5 s6 h1 h2
            rcases hk with hk | hk | hk | hk <;> cases begins <;> simp_all <;> (first | omega | (rw [Bool.eq_iff_iff, beq_iff_eq, decide_eq_true_iff]; omega) | (rw [Bool.eq_iff_iff]; simp; omega))
        · have b4 : decide ((3 : Int) < (s.kind : Int)) = true := by simp; omega
          have b4' : decide (3 < s.kind) = true := by simp; omega
          have HC : Hid (cont g s begins last = false) := hid (by simp [cont, h4])
          go_enter Try.func87, Try.ntmps87
          go_wp2_with ((with_reducible show wpList _ _ _ ({ dst := _, op := .box 114 _, type := _, pos := _, after := _, guard := _ } :: _) _ _); refine wpL_box rfl _ _ rfl _ rfl (secCells s) rfl ?_; intro w1 HB1 HF1 HS1)
          have d0 : w1.cell? ⟨w.heap.size, 0, none⟩ = some (.int .u32 s.epoch) := HB1.out.cell 0
          have d1 : w1.cell? ⟨w.heap.size, 1, none⟩ = some (.int .u32 s.life) := HB1.out.cell 1
          have d3 : w1.cell? ⟨w.heap.size, 3, none⟩ = some (.int .i64 s.kind) := HB1.out.cell 3
          have d4 : w1.cell? ⟨w.heap.size, 4, none⟩ = some (.int .i64 s.size) := HB1.out.cell 4
          replace c3 := HF1.out.cell c3 id
          replace c4 := HF1.out.cell c4 id
          go_quiet (fail)
          go_wp2_with fail
          go_ret
          exact ⟨by rw [HC.out]; rfl, HF1.out.drewN _⟩
      · have b3 : decide ((48 : Int) < (s.size : Int)) = true := by simp; omega
        have b3' : decide (48 < s.size) = true := by simp; omega
        have HC : Hid (cont g s begins last = false) := hid (by simp [cont, h3])
        go_enter Try.func87, Try.ntmps87
        go_wp2_with ((with_reducible show wpList _ _ _ ({ dst := _, op := .box 114 _, type := _, pos := _, after := _, guard := _ } :: _) _ _); refine wpL_box rfl _ _ rfl _ rfl (secCells s) rfl ?_; intro w1 HB1 HF1 HS1)
        have d0 : w1.cell? ⟨w.heap.size, 0, none⟩ = some (.int .u32 s.epoch) := HB1.out.cell 0
        have d1 : w1.cell? ⟨w.heap.size, 1, none⟩ = some (.int .u32 s.life) := HB1.out.cell 1
        have d4 : w1.cell? ⟨w.heap.size, 4, none⟩ = some (.int .i64 s.size) := HB1.out.cell 4
        replace c3 := HF1.out.cell c3 id
        replace c4 := HF1.out.cell c4 id
        go_quiet (fail)
        go_wp2_with fail
        go_ret
        exact ⟨by rw [HC.out]; rfl, HF1.out.drewN _⟩
    · have b2 : decide ((g.life : Int) ≤ (s.life : Int)) = true := by simp; omega
      have b2' : decide (g.life ≤ s.life) = true := by simp; omega
      have HC : Hid (cont g s begins last = false) := hid (by simp [cont, h2])
      go_enter Try.func87, Try.ntmps87
      go_wp2_with ((with_reducible show wpList _ _ _ ({ dst := _, op := .box 114 _, type := _, pos := _, after := _, guard := _ } :: _) _ _); refine wpL_box rfl _ _ rfl _ rfl (secCells s) rfl ?_; intro w1 HB1 HF1 HS1)
      have d0 : w1.cell? ⟨w.heap.size, 0, none⟩ = some (.int .u32 s.epoch) := HB1.out.cell 0
      have d1 : w1.cell? ⟨w.heap.size, 1, none⟩ = some (.int .u32 s.life) := HB1.out.cell 1
      replace c3 := HF1.out.cell c3 id
      replace c4 := HF1.out.cell c4 id
      go_quiet (fail)
      go_wp2_with fail
      go_ret
      exact ⟨by rw [HC.out]; rfl, HF1.out.drewN _⟩
  · have b1 : ((s.epoch : Int) != (g.epoch : Int)) = true := by simp; omega
    have HC : Hid (cont g s begins last = false) := hid (by simp [cont, h1])
    go_enter Try.func87, Try.ntmps87
    go_wp2_with ((with_reducible show wpList _ _ _ ({ dst := _, op := .box 114 _, type := _, pos := _, after := _, guard := _ } :: _) _ _); refine wpL_box rfl _ _ rfl _ rfl (secCells s) rfl ?_; intro w1 HB1 HF1 HS1)
    have d0 : w1.cell? ⟨w.heap.size, 0, none⟩ = some (.int .u32 s.epoch) := HB1.out.cell 0
    replace c3 := HF1.out.cell c3 id
    go_quiet (fail)
    go_wp2_with fail
    go_ret
    exact ⟨by rw [HC.out]; rfl, HF1.out.drewN _⟩
end Go.Proofs.Ytlnolnaapnijbaa.L
