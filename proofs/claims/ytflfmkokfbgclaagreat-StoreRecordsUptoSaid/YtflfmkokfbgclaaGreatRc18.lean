/-
  Part 18 of the proof: LogC, LogW, LogB.
-/
import Derived.Test.YtflfmkokfbgclaaGreatRc17
set_option linter.unusedSimpArgs false
set_option linter.unusedVariables false
namespace Go.Proofs.YtflfmkokfbgclaaGreat.L
set_option maxRecDepth 100000
open Go.RowKit K

def cont (g : Lg) (s : Sec) (begins : Bool) (last : Nat) : Bool :=
  decide (s.epoch = g.epoch) && decide (s.life < g.life) && decide (s.size ≤ 48) && decide (s.kind ≤ 3) && (begins == decide (s.kind % 2 = 1)) && decide (last ≤ s.life) && (begins || decide (s.life = last)) && (decide (s.kind / 2 = 1) || decide (s.size = 48))
structure Sec.Ok (s : Sec) : Prop where
  ep : s.epoch < 4294967296
  li : s.life < 4294967296
  pl : s.place < 65536
  kd : s.kind < 256
  sz : s.size < 256
  by48 : s.bytes.length = 48
theorem look_ok {b : List UInt8} (h : b.length = 64) : (look b).Ok :=
  ⟨Nat.lt_of_lt_of_le (nm_lt _) (Nat.pow_le_pow_right (by decide) (by simp; omega) : 256 ^ ((b.drop 4).take 4).length ≤ 256 ^ 4),
   Nat.lt_of_lt_of_le (nm_lt _) (Nat.pow_le_pow_right (by decide) (by simp; omega) : 256 ^ ((b.drop 8).take 4).length ≤ 256 ^ 4),
   Nat.lt_of_lt_of_le (nm_lt _) (Nat.pow_le_pow_right (by decide) (by simp; omega) : 256 ^ ((b.drop 12).take 2).length ≤ 256 ^ 2),
   Nat.lt_of_lt_of_le (nm_lt _) (Nat.pow_le_pow_right (by decide) (by simp; omega) : 256 ^ ((b.drop 14).take 1).length ≤ 256 ^ 1),
   Nat.lt_of_lt_of_le (nm_lt _) (Nat.pow_le_pow_right (by decide) (by simp; omega) : 256 ^ ((b.drop 15).take 1).length ≤ 256 ^ 1), by simp [look, h]⟩

theorem and_one {k : Nat} (h : k ≤ 3) : bits .and .i64 (k : Int) 1 = ((k % 2 : Nat) : Int) := by
  obtain rfl | rfl | rfl | rfl : k = 0 ∨ k = 1 ∨ k = 2 ∨ k = 3 := by omega
  all_goals decide
theorem and_two {k : Nat} (h : k ≤ 3) : bits .and .i64 (k : Int) 2 = ((k / 2 * 2 : Nat) : Int) := by
  obtain rfl | rfl | rfl | rfl : k = 0 ∨ k = 1 ∨ k = 2 ∨ k = 3 := by omega
  all_goals decide
set_option maxHeartbeats 4000000 in
theorem continues_any (w : World) (bg bd : Nat) (Z : Nat → Prop) (g : Lg) (u : U) (s : Sec) (begins : Bool) (last : Nat) (h : At w bg bd Z g u) (hs : s.Ok) (hl : last < 4294967296) :
    Calls Tryz.prog 110 #[.pointer (some ⟨bg, 0, none⟩), .agg (secCells s).toArray, .bool begins, .int .u32 last] w fun e w' => e = .returned (.bool (cont g s begins last)) ∧ Fr No w w' := by
  obtain ⟨s1, s2, s3, s4, s5, s6⟩ := hs
  have c3 : w.cell? ⟨bg, 3, none⟩ = some (.int .u32 g.epoch) := h.2.1.cell 3
  have c4 : w.cell? ⟨bg, 4, none⟩ = some (.int .u32 g.life) := h.2.1.cell 4
  have g3 := h.2.2.2.ep
  have g4 := h.2.2.2.li
  have HBG : Hid (bg < w.heap.size) := hid h.2.1.lt
  clear h
  by_cases h1 : s.epoch = g.epoch
  · have b1 : ((s.epoch : Int) != (g.epoch : Int)) = false := by rw [h1]; simp
    by_cases h2 : s.life < g.life
    · have b2 : decide ((g.life : Int) ≤ (s.life : Int)) = false := by simp; omega
      have b2' : decide (g.life ≤ s.life) = false := by simp; omega
      by_cases h3 : s.size ≤ 48
      · have b3 : decide ((48 : Int) < (s.size : Int)) = false := by simp; omega
        have b3' : decide (48 < s.size) = false := by simp; omega
        by_cases h4 : s.kind ≤ 3
        · have b4 : decide ((3 : Int) < (s.kind : Int)) = false := by simp; omega
          have b4' : decide (3 < s.kind) = false := by simp; omega
          have HC : Hid (cont g s begins last = ((begins == decide (s.kind % 2 = 1)) && decide (last ≤ s.life) && (begins || decide (s.life = last)) && (decide (s.kind / 2 = 1) || decide (s.size = 48)))) := hid (by simp [cont, h1, h2, h3, h4])
          go_enter Tryz.func110, Tryz.ntmps110
          go_wp2_with ((with_reducible show wpList _ _ _ (⟨_, .box 148 _, _, _, _, _⟩ :: _) _ _); refine wpL_box rfl _ _ rfl _ rfl (secCells s) rfl ?_; intro w1 HB1 HF1 HS1)
          have d0 : w1.cell? ⟨w.heap.size, 0, none⟩ = some (.int .u32 s.epoch) := HB1.out.cell 0
          have d1 : w1.cell? ⟨w.heap.size, 1, none⟩ = some (.int .u32 s.life) := HB1.out.cell 1
          have d3 : w1.cell? ⟨w.heap.size, 3, none⟩ = some (.int .i64 s.kind) := HB1.out.cell 3
          have d4 : w1.cell? ⟨w.heap.size, 4, none⟩ = some (.int .i64 s.size) := HB1.out.cell 4
          replace c3 := HF1.out.cell c3 id
          replace c4 := HF1.out.cell c4 id
          go_quiet (fail)
          go_wp2_with fail
          all_goals
            go_ret
            refine ⟨?_, HF1.out.drewN _⟩
            rw [HC.out]
            have a1 := and_one h4
            have a2 := and_two h4
            simp only [a1, a2] at *
            clear HC HB1 HF1 HS1 HBG d0 d1 d3 d4 c3 c4
            refine congrArg (fun b => Ending.returned (.bool b)) (?_ : _ = _)
            have hk : s.kind = 0 ∨ s.kind = 1 ∨ s.kind = 2 ∨ s.kind = 3 := by omega
            clear a1 a2 b1 b2 b2' b3 b3' b4 b4' g3 g4 s1 s2 s3 s4 s5 s6 h1 h2
            rcases hk with hk | hk | hk | hk <;> cases begins <;> simp_all <;> (first | omega | (rw [Bool.eq_iff_iff, beq_iff_eq, decide_eq_true_iff]; omega) | (rw [Bool.eq_iff_iff]; simp; omega))
        · have b4 : decide ((3 : Int) < (s.kind : Int)) = true := by simp; omega
          have b4' : decide (3 < s.kind) = true := by simp; omega
          have HC : Hid (cont g s begins last = false) := hid (by simp [cont, h4])
          go_enter Tryz.func110, Tryz.ntmps110
          go_wp2_with ((with_reducible show wpList _ _ _ (⟨_, .box 148 _, _, _, _, _⟩ :: _) _ _); refine wpL_box rfl _ _ rfl _ rfl (secCells s) rfl ?_; intro w1 HB1 HF1 HS1)
          have d0 : w1.cell? ⟨w.heap.size, 0, none⟩ = some (.int .u32 s.epoch) := HB1.out.cell 0
          have d1 : w1.cell? ⟨w.heap.size, 1, none⟩ = some (.int .u32 s.life) := HB1.out.cell 1
          have d3 : w1.cell? ⟨w.heap.size, 3, none⟩ = some (.int .i64 s.kind) := HB1.out.cell 3
          have d4 : w1.cell? ⟨w.heap.size, 4, none⟩ = some (.int .i64 s.size) := HB1.out.cell 4
          replace c3 := HF1.out.cell c3 id
          replace c4 := HF1.out.cell c4 id
          go_quiet (fail)
          go_wp2_with fail
          go_ret
          exact ⟨by rw [HC.out]; rfl, HF1.out.drewN _⟩
      · have b3 : decide ((48 : Int) < (s.size : Int)) = true := by simp; omega
        have b3' : decide (48 < s.size) = true := by simp; omega
        have HC : Hid (cont g s begins last = false) := hid (by simp [cont, h3])
        go_enter Tryz.func110, Tryz.ntmps110
        go_wp2_with ((with_reducible show wpList _ _ _ (⟨_, .box 148 _, _, _, _, _⟩ :: _) _ _); refine wpL_box rfl _ _ rfl _ rfl (secCells s) rfl ?_; intro w1 HB1 HF1 HS1)
        have d0 : w1.cell? ⟨w.heap.size, 0, none⟩ = some (.int .u32 s.epoch) := HB1.out.cell 0
        have d1 : w1.cell? ⟨w.heap.size, 1, none⟩ = some (.int .u32 s.life) := HB1.out.cell 1
        have d4 : w1.cell? ⟨w.heap.size, 4, none⟩ = some (.int .i64 s.size) := HB1.out.cell 4
        replace c3 := HF1.out.cell c3 id
        replace c4 := HF1.out.cell c4 id
        go_quiet (fail)
        go_wp2_with fail
        go_ret
        exact ⟨by rw [HC.out]; rfl, HF1.out.drewN _⟩
    · have b2 : decide ((g.life : Int) ≤ (s.life : Int)) = true := by simp; omega
      have b2' : decide (g.life ≤ s.life) = true := by simp; omega
      have HC : Hid (cont g s begins last = false) := hid (by simp [cont, h2])
      go_enter Tryz.func110, Tryz.ntmps110
      go_wp2_with ((with_reducible show wpList _ _ _ (⟨_, .box 148 _, _, _, _, _⟩ :: _) _ _); refine wpL_box rfl _ _ rfl _ rfl (secCells s) rfl ?_; intro w1 HB1 HF1 HS1)
      have d0 : w1.cell? ⟨w.heap.size, 0, none⟩ = some (.int .u32 s.epoch) := HB1.out.cell 0
      have d1 : w1.cell? ⟨w.heap.size, 1, none⟩ = some (.int .u32 s.life) := HB1.out.cell 1
      replace c3 := HF1.out.cell c3 id
      replace c4 := HF1.out.cell c4 id
      go_quiet (fail)
      go_wp2_with fail
      go_ret
      exact ⟨by rw [HC.out]; rfl, HF1.out.drewN _⟩
  · have b1 : ((s.epoch : Int) != (g.epoch : Int)) = true := by simp; omega
    have HC : Hid (cont g s begins last = false) := hid (by simp [cont, h1])
    go_enter Tryz.func110, Tryz.ntmps110
    go_wp2_with ((with_reducible show wpList _ _ _ (⟨_, .box 148 _, _, _, _, _⟩ :: _) _ _); refine wpL_box rfl _ _ rfl _ rfl (secCells s) rfl ?_; intro w1 HB1 HF1 HS1)
    have d0 : w1.cell? ⟨w.heap.size, 0, none⟩ = some (.int .u32 s.epoch) := HB1.out.cell 0
    replace c3 := HF1.out.cell c3 id
    go_quiet (fail)
    go_wp2_with fail
    go_ret
    exact ⟨by rw [HC.out]; rfl, HF1.out.drewN _⟩
end Go.Proofs.YtflfmkokfbgclaaGreat.L

namespace Go.Proofs.YtflfmkokfbgclaaGreat.L
set_option maxRecDepth 100000
open Go.RowKit K

@[simp] theorem write_L (u : U) (n : Int) (b : List UInt8) : (u.write n b).2.L = u.L := by
  unfold U.write
  (repeat' split) <;> simp
theorem putl_end {X b : List UInt8} (h : X.length = 64) (hb : b.length = 48) : putl X 16 b = X.take 16 ++ b := by
  simp [putl, hb, h]
theorem spl_u8s (X xs : List UInt8) (o : Nat) : spl (u8s X) o (u8s xs) = u8s (putl X o xs) := by
  simp [spl, putl, u8s]
def head6 (e l p f s : Nat) : List UInt8 := putl (putl (putl (putl (putl zeros64 4 (le 4 e)) 8 (le 4 l)) 12 (le 2 p)) 14 (le 1 f)) 15 (le 1 s)
theorem putl64 {l : List UInt8} {o k n : Nat} (h1 : l.length = 64) (h2 : o + k ≤ 64) : (putl l o (le k n)).length = 64 := by rw [putl_length (by simp; omega), h1]
theorem head6_len (e l p f s : Nat) : (head6 e l p f s).length = 64 :=
  putl64 (putl64 (putl64 (putl64 (putl64 rfl (by decide)) (by decide)) (by decide)) (by decide)) (by decide)
theorem head6_16 (e l p f s : Nat) (b : List UInt8) : (head6 e l p f s).take 16 ++ b = [0, 0, 0, 0] ++ rest e l p f s b := rfl
theorem made_put (e l p f s : Nat) (b : List UInt8) : putl ([0, 0, 0, 0] ++ rest e l p f s b) 0 (le 4 (S.add 0 (rest e l p f s b))) = made e l p f s b := by
  simp [putl, made]
theorem zero89 (w : World) : (zeroValue 101).run Tryz.prog w = .ok (.agg (u8s zeros64).toArray) w := by kernel_rfl
theorem hentWrite (vs : Array Value) (w : World) : (callFunc 85 vs).run Tryz.prog w = .ok (.enter 85 vs) w := by kernel_rfl

set_option maxHeartbeats 4000000 in
theorem write_any (w : World) (bg bd : Nat) (Z : Nat → Prop) (g : Lg) (u : U) (s : Sec) (h : At w bg bd Z g u) (hs : s.Ok) (hp : u.P.length < 1000000) :
    Calls Tryz.prog 76 #[.pointer (some ⟨bg, 0, none⟩), .agg (secCells s).toArray] w fun e w' =>
      e = .returned (.int .i64 (u.write (g.first + s.place : Nat) (made s.epoch s.life s.place s.kind s.size s.bytes)).1) ∧
        ∃ Z', At w' bg bd Z' g (u.write (g.first + s.place : Nat) (made s.epoch s.life s.place s.kind s.size s.bytes)).2 ∧ Fr Z w w' ∧ Grows w Z Z' := by
  obtain ⟨r, e, l, p, k, z, b⟩ := s
  obtain ⟨he, hl, hpl, hk, hz, h48⟩ := hs
  simp only at he hl hpl hk hz h48 ⊢
  have hL := h.lens
  have hf0 : (g.first : Int) ≤ 4096 := by have := h.2.2.2.fit; omega
  have HA := hid h
  have HP := hid hp
  have H48 := hid h48
  clear h hp h48
  have hmf : ∀ (fn : Fn) (first cap : Array Value) (w : World), (Instr.makeFunc fn first cap).run Tryz.prog w = .ok (.func fn first cap) w := fun _ _ _ _ => rfl
  go_enter Tryz.func76, Tryz.ntmps76
  go_wp2_with (first
    | ((with_reducible show wpList _ _ _ (⟨_, .box 148 _, _, _, _, _⟩ :: _) _ _); refine wpL_box rfl _ _ rfl _ rfl (secCells ⟨false, e, l, p, k, z, b⟩) rfl ?_; intro w1 HB1 HF1 HS1;
        have d0 : w1.cell? ⟨w.heap.size, 0, none⟩ = some (.int .u32 e) := HB1.out.cell 0)
    | ((with_reducible show wpList _ _ _ (⟨_, .alloc 101, _, _, _, _⟩ :: _) _ _); refine wpL_alloc rfl _ rfl _ zero89 (u8s zeros64) rfl ?_; intro w2 HB2 HF2 HS2; replace d0 := HF2.out.cell d0 id))
  have HZ : Hid (Fr No w w2) := hid (HF1.out.trans' HF2.out)
  have HBs : Hid (Blk w2 w.heap.size 148 (secCells ⟨false, e, l, p, k, z, b⟩)) := hid (HB1.out.fr HF2.out id)
  have HS2' : Hid (w1.heap.size = w.heap.size + 1) := HS1
  have hb1 : w1.heap.size ≠ w.heap.size := by have := HS1.out; omega
  refine (put_any w1.heap.size 4 4 e zeros64 w2 HB2.out rfl (by decide) he).mono ?_
  rintro e' w3 ⟨rfl, h1, h2, h3⟩
  have HP3 := hid h1; have HF3 := hid h2; clear h1 h2 h3
  have d1 : w3.cell? ⟨w.heap.size, 1, none⟩ = some (.int .u32 l) := HF3.out.cell (HBs.out.cell 1) (Ne.symm hb1)
  go_wp2_with fail
  have q1 : (putl zeros64 4 (le 4 e)).length = 64 := putl64 rfl (by decide)
  have q2 : (putl (putl zeros64 4 (le 4 e)) 8 (le 4 l)).length = 64 := putl64 q1 (by decide)
  have q3 : (putl (putl (putl zeros64 4 (le 4 e)) 8 (le 4 l)) 12 (le 2 p)).length = 64 := putl64 q2 (by decide)
  have q4 : (putl (putl (putl (putl zeros64 4 (le 4 e)) 8 (le 4 l)) 12 (le 2 p)) 14 (le 1 k)).length = 64 := putl64 q3 (by decide)
  have Q1 := hid q1; have Q2 := hid q2; have Q3 := hid q3; have Q4 := hid q4
  clear q1 q2 q3 q4
  refine (put_any w1.heap.size 8 4 l _ w3 HP3.out Q1.out (by decide) hl).mono ?_
  rintro e' w4 ⟨rfl, h1, h2, h3⟩
  have HP4 := hid h1; have HF4 := hid (HF3.out.trans' h2); clear h1 h2 h3 d1
  have d2 : w4.cell? ⟨w.heap.size, 2, none⟩ = some (.int .i64 p) := HF4.out.cell (HBs.out.cell 2) (Ne.symm hb1)
  go_wp2_with fail
  refine (put_any w1.heap.size 12 2 p _ w4 HP4.out Q2.out (by decide) (by omega)).mono ?_
  rintro e' w5 ⟨rfl, h1, h2, h3⟩
  have HP5 := hid h1; have HF5 := hid (HF4.out.trans' h2); clear h1 h2 h3 d2
  have d3 : w5.cell? ⟨w.heap.size, 3, none⟩ = some (.int .i64 k) := HF5.out.cell (HBs.out.cell 3) (Ne.symm hb1)
  go_wp2_with fail
  refine (put_any w1.heap.size 14 1 k _ w5 HP5.out Q3.out (by decide) (by omega)).mono ?_
  rintro e' w6 ⟨rfl, h1, h2, h3⟩
  have HP6 := hid h1; have HF6 := hid (HF5.out.trans' h2); clear h1 h2 h3 d3
  have d4 : w6.cell? ⟨w.heap.size, 4, none⟩ = some (.int .i64 z) := HF6.out.cell (HBs.out.cell 4) (Ne.symm hb1)
  go_wp2_with fail
  refine (put_any w1.heap.size 15 1 z _ w6 HP6.out Q4.out (by decide) (by omega)).mono ?_
  rintro e' w7 ⟨rfl, h1, h2, h3⟩
  have HP7 : Hid (Blk w7 w1.heap.size 101 (u8s (head6 e l p k z))) := hid h1
  have HF7 := hid (HF6.out.trans' h2); clear h1 h2 h3 d4
  go_wp2_with fail
  have HBs7 : Hid (Blk w7 w.heap.size 148 (secCells ⟨false, e, l, p, k, z, b⟩)) := hid (HBs.out.fr HF7.out (Ne.symm hb1))
  clear HP3 HP4 HP5 HP6 HF3 HF4 HF5 HF6 Q1 Q2 Q3 Q4 d0
  have hold : Facts.hold [] w7.drew := Facts.nil_hold _
  refine wpD_region hold (by kernel_rfl) 4 rfl ?_
  (refine wpD_plain 0 (v := ?_) rfl (by kernel_rfl) (by kernel_rfl) (by kernel_rfl) (fun _ _ _ h => h) (by rfl) ?_ (by assumption) ?_; rotate_left; (intro _w; go_simp; try with_reducible rfl); simp only [Act.put, List.setIfInBounds_toArray, List.set_cons_zero, List.set_cons_succ])
  (refine wpD_plain 1 (v := ?_) rfl (by kernel_rfl) (by kernel_rfl) (by kernel_rfl) (fun _ _ _ h => h) (by rfl) ?_ (by assumption) ?_; rotate_left; (intro _w; go_simp; try with_reducible rfl); simp only [Act.put, List.setIfInBounds_toArray, List.set_cons_zero, List.set_cons_succ])
  (refine wpD_plain 2 (v := ?_) rfl (by kernel_rfl) (by kernel_rfl) (by kernel_rfl) (fun _ _ _ h => h) (by rfl) ?_ (by assumption) ?_; rotate_left; (intro _w; go_simp; try with_reducible rfl); simp only [Act.put, List.setIfInBounds_toArray, List.set_cons_zero, List.set_cons_succ])
  refine wpD_only 3 [] rfl (by kernel_rfl) (by kernel_rfl) (by rfl) (fun K3 hK3 => ?_)
  refine wp_copyB _ _ _ _ rfl 5 rfl info8 w1.heap.size 16 48 48 (some ⟨w.heap.size, 5, none⟩) 48 48 (by rfl) (by rfl) 101 _ HP7.out.drew (u8s b) (by rw [u8s_length, H48.out]; rfl) ⟨_, rfl, ?_⟩ (by rw [u8s_length, u8s_length, H48.out, head6_len]; decide) (u8s_one _) ?_
  · refine range_loads (HBs7.out.range 5 (u8s b) ?_)
    simp only [secCells, List.drop_succ_cons, List.drop_zero, List.take_length]
  intro w8 HB8 HF8 HS8
  refine hK3 _ _ (Facts.nil_hold _) ?_
  clear hK3 K3 hold
  simp only [Act.put, List.setIfInBounds_toArray, List.set_cons_zero, List.set_cons_succ]
  refine wpD_done (by kernel_rfl) ?_ _
  have HP8 : Hid (Blk w8 w1.heap.size 101 (u8s ([0, 0, 0, 0] ++ rest e l p k z b))) := hid (by
    have := HB8.out
    rwa [spl_u8s, putl_end (head6_len e l p k z) H48.out, head6_16] at this)
  have HF8' : Hid (Fr (fun j => j = w1.heap.size) w2 w8) := hid (HF7.out.drew.trans' HF8.out)
  clear HB8 HF8 HP7
  have HX : Hid (([0, 0, 0, 0] ++ rest e l p k z b).drop 4 = rest e l p k z b) := hid rfl
  have HXl : Hid ((rest e l p k z b).length = 60) := hid (by rw [rest_length, H48.out])
  have HSum := hid (S.sum_at (rest e l p k z b) (some ⟨w1.heap.size, 4, none⟩) 60 w8 (fun i hi => ⟨_, _, rfl, by
    have := HP8.out.cell (4 + i)
    rw [this, u8s_get _ _ (by simp; omega), List.getElem_append_right (by simp)]
    simp⟩) (by rw [HXl.out]; decide))
  rw [HXl.out] at HSum
  have HSl : Hid (S.add 0 (rest e l p k z b) < 4294967296) := hid (S.add_lt (by decide) _)
  have HM : Hid (putl ([0, 0, 0, 0] ++ rest e l p k z b) 0 (le 4 (S.add 0 (rest e l p k z b))) = made e l p k z b) := hid (made_put _ _ _ _ _ _)
  go_wp2_with fail
  refine HSum.out.mono ?_
  rintro e' w' ⟨rfl, rfl⟩
  go_wp2_with fail
  refine (put_any w1.heap.size 0 4 _ _ w8 HP8.out (by simp [HXl.out]) (by decide) HSl.out).mono ?_
  rintro e' w9 ⟨rfl, h1, h2, h3⟩
  rw [HM.out] at h1
  have HP9 := hid h1; have HBs9 : Hid (Blk w9 w.heap.size 148 (secCells ⟨false, e, l, p, k, z, b⟩)) := hid (HBs.out.fr (HF8'.out.trans' h2) (Ne.symm hb1)); have HF9 : Hid (Fr No w w9) := hid ((HZ.out.trans (HF8'.out.trans' h2) (fun j hj => .inr (by have := HS1.out; omega)))); clear h1 h2 h3
  have HS9 : Hid (w.heap.size + 1 < w9.heap.size) := hid (by have := HS1.out; have := HP9.out.lt; omega)
  go_wp2_with fail
  have HA9 : Hid (At w9.drew bg bd Z g u) := hid (HA.out.no HF9.out.drew)
  have c0 : w9.cell? ⟨bg, 0, none⟩ = some (.pointer (some ⟨bd, 0, none⟩)) := HF9.out.cell (HA.out.2.1.cell 0) id
  have c1 : w9.cell? ⟨bg, 1, none⟩ = some (.int .i64 g.first) := HF9.out.cell (HA.out.2.1.cell 1) id
  have c2 : w9.cell? ⟨w.heap.size, 2, none⟩ = some (.int .i64 p) := HBs9.out.cell 2
  have hold : Facts.hold [(3, fun w' => w'.cell? ⟨bg, 0, none⟩ = some (.pointer (some ⟨bd, 0, none⟩))), (7, fun w' => w'.cell? ⟨bg, 1, none⟩ = some (.int .i64 g.first)), (9, fun w' => w'.cell? ⟨w.heap.size, 2, none⟩ = some (.int .i64 p))] w9.drew := Facts.cons_hold c0 (Facts.cons_hold c1 (Facts.cons_hold c2 (Facts.nil_hold _)))
  have WS : Hid (IntKind.i64.wrap ((g.first : Int) + p) = ((g.first + p : Nat) : Int)) := hid ((wrap_small (by omega) (by omega)).trans (by omega))
  refine wpD_region hold (by kernel_rfl) 14 rfl ?_
  (refine wpD_plain 0 (v := ?_) rfl (by kernel_rfl) (by kernel_rfl) (by kernel_rfl) (fun _ _ _ h => h) (by rfl) ?_ (by assumption) ?_; rotate_left; (intro _w; go_simp; try with_reducible rfl); simp only [Act.put, List.setIfInBounds_toArray, List.set_cons_zero, List.set_cons_succ])
  (refine wpD_plain 1 (v := ?_) rfl (by kernel_rfl) (by kernel_rfl) (by kernel_rfl) (fun _ _ _ h => h) (by rfl) ?_ (by assumption) ?_; rotate_left; (intro _w; go_simp; try with_reducible rfl); simp only [Act.put, List.setIfInBounds_toArray, List.set_cons_zero, List.set_cons_succ])
  (refine wpD_plain 2 (v := ?_) rfl (by kernel_rfl) (by kernel_rfl) (by kernel_rfl) (fun _ _ _ h => h) (by rfl) ?_ (by assumption) ?_; rotate_left; (intro _w; go_simp; try with_reducible rfl); simp only [Act.put, List.setIfInBounds_toArray, List.set_cons_zero, List.set_cons_succ])
  (refine wpD_take 3 _ rfl (by kernel_rfl) (by kernel_rfl) (by kernel_rfl) (fun _ _ _ h => h) List.mem_cons_self (by rfl) (v := ?_) ?_ (by assumption) ?_; rotate_left; (intro _w _hw; go_simp; try with_reducible rfl); simp only [Act.put, List.setIfInBounds_toArray, List.set_cons_zero, List.set_cons_succ])
  (refine wpD_plain 4 (v := ?_) rfl (by kernel_rfl) (by kernel_rfl) (by kernel_rfl) (fun _ _ _ h => h) (by rfl) ?_ (by assumption) ?_; rotate_left; (intro _w; go_simp; try with_reducible rfl); simp only [Act.put, List.setIfInBounds_toArray, List.set_cons_zero, List.set_cons_succ])
  (refine wpD_plain 5 (v := ?_) rfl (by kernel_rfl) (by kernel_rfl) (by kernel_rfl) (fun _ _ _ h => h) (by rfl) ?_ (by assumption) ?_; rotate_left; (intro _w; go_simp; try with_reducible rfl); simp only [Act.put, List.setIfInBounds_toArray, List.set_cons_zero, List.set_cons_succ])
  (refine wpD_plain 6 (v := ?_) rfl (by kernel_rfl) (by kernel_rfl) (by kernel_rfl) (fun _ _ _ h => h) (by rfl) ?_ (by assumption) ?_; rotate_left; (intro _w; go_simp; try with_reducible rfl); simp only [Act.put, List.setIfInBounds_toArray, List.set_cons_zero, List.set_cons_succ])
  (refine wpD_take 7 _ rfl (by kernel_rfl) (by kernel_rfl) (by kernel_rfl) (fun _ _ _ h => h) (List.mem_cons_of_mem _ List.mem_cons_self) (by rfl) (v := ?_) ?_ (by assumption) ?_; rotate_left; (intro _w _hw; go_simp; try with_reducible rfl); simp only [Act.put, List.setIfInBounds_toArray, List.set_cons_zero, List.set_cons_succ])
  (refine wpD_plain 8 (v := ?_) rfl (by kernel_rfl) (by kernel_rfl) (by kernel_rfl) (fun _ _ _ h => h) (by rfl) ?_ (by assumption) ?_; rotate_left; (intro _w; go_simp; try with_reducible rfl); simp only [Act.put, List.setIfInBounds_toArray, List.set_cons_zero, List.set_cons_succ])
  (refine wpD_take 9 _ rfl (by kernel_rfl) (by kernel_rfl) (by kernel_rfl) (fun _ _ _ h => h) (List.mem_cons_of_mem _ (List.mem_cons_of_mem _ List.mem_cons_self)) (by rfl) (v := ?_) ?_ (by assumption) ?_; rotate_left; (intro _w _hw; go_simp; try with_reducible rfl); simp only [Act.put, List.setIfInBounds_toArray, List.set_cons_zero, List.set_cons_succ])
  (refine wpD_plain 10 (v := (.int .i64 ((g.first + p : Nat) : Int))) rfl (by kernel_rfl) (by kernel_rfl) (by kernel_rfl) (fun _ _ _ h => h) (by rfl) ?_ (by assumption) ?_; (intro _w; go_simp; exact WS.out); simp only [Act.put, List.setIfInBounds_toArray, List.set_cons_zero, List.set_cons_succ])
  (refine wpD_plain 11 (v := ?_) rfl (by kernel_rfl) (by kernel_rfl) (by kernel_rfl) (fun _ _ _ h => h) (by rfl) ?_ (by assumption) ?_; rotate_left; (intro _w; go_simp; try with_reducible rfl); simp only [Act.put, List.setIfInBounds_toArray, List.set_cons_zero, List.set_cons_succ])
  refine wpD_only 12 [(7, fun w' => w'.cell? ⟨bg, 1, none⟩ = some (.int .i64 g.first)), (9, fun w' => w'.cell? ⟨w.heap.size, 2, none⟩ = some (.int .i64 p))] rfl (by kernel_rfl) (by kernel_rfl) (by rfl) (fun K12 hK12 => ?_)
  refine wp_call (.func 85) _ _ rfl 85 [] rfl hentWrite [.pointer (some ⟨bd, 0, none⟩), .int .i64 ((g.first + p : Nat) : Int), .slice (some ⟨w1.heap.size, 0, none⟩) 64 64] (by rfl) ?_
  have hlt : ∀ j, Z j → j < w.heap.size := HA.out.1.lt
  refine (dwrite_any ((g.first + p : Nat) : Int) _ (made e l p k z b) (fun j => j = w1.heap.size) ⟨_, 64, 64, rfl, made_length H48.out, Nat.le_refl _, .inr ⟨_, 0, rfl, rfl, HP9.out.drew.lt, HP9.out.drew.range 0 _ (by rw [List.drop_zero, List.take_length])⟩⟩ (fun j hj hz => by have := hlt j hz; have := HS1.out; omega) HA9.out.1 HP.out).mono ?_
  rintro e' w10 ⟨rfl, Z', h1, h2, h3⟩
  have f1 : w10.cell? ⟨bg, 1, none⟩ = some (.int .i64 g.first) := h2.cell (w := w9.drew) c1 HA.out.2.2.1
  have f2 : w10.cell? ⟨w.heap.size, 2, none⟩ = some (.int .i64 p) := h2.cell (w := w9.drew) c2 (fun hz => by have := hlt _ hz; exact Nat.lt_irrefl _ this)
  have hold2 : Facts.hold [(7, fun w' => w'.cell? ⟨bg, 1, none⟩ = some (.int .i64 g.first)), (9, fun w' => w'.cell? ⟨w.heap.size, 2, none⟩ = some (.int .i64 p))] w10 := Facts.cons_hold f1 (Facts.cons_hold f2 (Facts.nil_hold _))
  refine ⟨_, rfl, hK12 _ _ hold2 ?_⟩
  clear hK12 K12 hold
  simp only [Act.put, List.setIfInBounds_toArray, List.set_cons_zero, List.set_cons_succ]
  (refine wpD_plain 13 (v := ?_) rfl (by kernel_rfl) (by kernel_rfl) (by kernel_rfl) (fun _ _ _ h => h) (by rfl) ?_ (by assumption) ?_; rotate_left; (intro _w; go_simp; try with_reducible rfl); simp only [Act.put, List.setIfInBounds_toArray, List.set_cons_zero, List.set_cons_succ])
  refine wpD_done (by kernel_rfl) ?_ _
  go_wp2_with fail
  go_ret
  have hbg : ¬ Z' bg := fun hz => (h3 bg hz).elim HA.out.2.2.1 (fun hge => by
    have hge' : w9.heap.size ≤ bg := hge
    have := HA.out.2.1.lt
    have := HS9.out
    omega)
  refine ⟨rfl, Z', ⟨h1, HA9.out.2.1.fr h2 HA.out.2.2.1, hbg, ?_⟩, HF9.out.drew.no.trans' h2, fun j hj => (h3 j hj).imp id (fun hge => by
    have hge' : w9.heap.size ≤ j := hge
    have := HS9.out
    omega)⟩
  have hok := HA.out.2.2.2
  rwa [show (u.write ((g.first + p : Nat) : Int) (made e l p k z b)).2.L.length = u.L.length by rw [write_L]]
end Go.Proofs.YtflfmkokfbgclaaGreat.L

namespace Go.Proofs.YtflfmkokfbgclaaGreat.L
set_option maxRecDepth 100000
open Go.RowKit K

theorem headOk {n : Nat} (hn : n < 4294967296) : (⟨false, 0, n, 0, 4, 0, zeros48⟩ : Sec).Ok :=
  ⟨(by decide : (0 : Nat) < 4294967296), hn, (by decide : (0 : Nat) < 65536), (by decide : (4 : Nat) < 256), (by decide : (0 : Nat) < 256), rfl⟩
theorem look_sec_ok {w : World} {bd : Nat} {Z : Nat → Prop} {u : U} (h : Dk w bd Z u) {n : Nat} (hn : n < u.L.length) : (look (u.sec n)).Ok := look_ok (sec64 h hn)
theorem At.setLife {w : World} {bg bd : Nat} {Z : Nat → Prop} {g : Lg} {u : U} (h : At w bg bd Z g u) (n : Nat) (hn : n < 4294967296) : At (w.setCell ⟨bg, 4, none⟩ (.int .u32 n)) bg bd Z { g with life := n } u :=
  ⟨D.Rep.fr h.1 ((Fr.refl (fun k => k = bg) w).setCell _ _ (.inl rfl)) (fun k hk e => h.2.2.1 (by rw [← e]; exact hk)), h.2.1.set 4 _, h.2.2.1, ⟨h.2.2.2.c2, h.2.2.2.fit, h.2.2.2.n1, h.2.2.2.nc, h.2.2.2.ep, hn⟩⟩
theorem At.setNext {w : World} {bg bd : Nat} {Z : Nat → Prop} {g : Lg} {u : U} (h : At w bg bd Z g u) (n : Nat) (h1 : 1 ≤ n) (h2 : n ≤ g.count) : At (w.setCell ⟨bg, 5, none⟩ (.int .i64 n)) bg bd Z { g with next := n } u :=
  ⟨D.Rep.fr h.1 ((Fr.refl (fun k => k = bg) w).setCell _ _ (.inl rfl)) (fun k hk e => h.2.2.1 (by rw [← e]; exact hk)), h.2.1.set 5 _, h.2.2.1, ⟨h.2.2.2.c2, h.2.2.2.fit, h1, h2, h.2.2.2.ep, h.2.2.2.li⟩⟩
theorem buildHead (n : Int) (w : World) : (Instr.build 148 #[(1, .int .u32 n), (3, .int .i64 4)]).run Tryz.prog w =
    .ok (.agg (Value.int .u32 0 :: .int .u32 n :: .int .i64 0 :: .int .i64 4 :: .int .i64 0 :: u8s zeros48).toArray) w := by kernel_rfl
@[simp] theorem flush_L (u : U) : u.flush.2.L.length = u.L.length := by
  unfold U.flush
  (repeat' split) <;> simp
theorem flush_at {w w' : World} {bg bd : Nat} {Z : Nat → Prop} {g : Lg} {u : U} (h : At w bg bd Z g u) (hd : Dk w' bd Z u.flush.2) (hf : Fr Z w w') : At w' bg bd Z g u.flush.2 :=
  ⟨hd, h.2.1.fr hf h.2.2.1, h.2.2.1, by rw [flush_L]; exact h.2.2.2⟩

set_option maxHeartbeats 4000000 in
theorem begin_any (w : World) (bg bd : Nat) (Z : Nat → Prop) (g : Lg) (u : U) (h : At w bg bd Z g u) (hg : g.life = 0) (hp : u.P.length < 1000000) :
    Calls Tryz.prog 93 #[.pointer (some ⟨bg, 0, none⟩)] w fun e w' =>
      e = .returned (.int .i64 (u.begin g.first).1) ∧
        ∃ Z' li, At w' bg bd Z' { g with life := li } (u.begin g.first).2.1 ∧ Fr (fun k => Z k ∨ k = bg) w w' ∧ Grows w Z Z' ∧ ((u.begin g.first).1 = 0 → li = (u.begin g.first).2.2 + 1) := by
  have hn : g.first + 0 < u.L.length := by have := h.2.2.2.fit; have := h.2.2.2.c2; omega
  cases hu : u.up with
  | false =>
    have e1 : u.begin g.first = (10, u, 0) := by simp [U.begin, hu]
    rw [e1]
    have HR := hid (read_down w bg bd Z g u 0 h hn hu)
    have HA := hid h
    clear h hu e1
    go_enter Tryz.func93, Tryz.ntmps93
    go_wp2_with fail
    refine HR.out.mono ?_
    rintro e w1 ⟨rfl, hf⟩
    have HF1 := hid hf; clear hf
    go_wp2_with (first
      | ((with_reducible show wpList _ _ _ (⟨_, .alloc 148, _, _, _, _⟩ :: _) _ _); refine wpL_alloc rfl _ rfl _ zero87 (secCells noSec) rfl ?_; intro w2 HB2 HF2 HS2)
      | ((with_reducible show wpList _ _ _ (⟨_, .store 148 _ _, _, _, _, _⟩ :: _) _ _); refine wpL_store rfl _ _ _ rfl w1.heap.size 0 (secCells noSec) rfl rfl _ _ HB2.out (by simp only [sec_len]; decide) (by rw [info87, sec_len]; rfl) (sec_one _) ?_; intro w3 HB3 HF3 HS3))
    go_ret
    have hF : Fr No w w3 := (HF1.out.trans' HF2.out).trans HF3.out (fun k hk => .inr (by rw [hk]; exact HF1.out.size))
    refine ⟨rfl, Z, g.life, HA.out.no hF, hF.no, Grows.refl _ _, fun e => by simp at e⟩
  | true =>
    have hok := look_sec_ok h.1 hn
    have HR := hid (read_up w bg bd Z g u 0 h hn hu)
    rw [Nat.add_zero] at HR hok
    have hb : u.begin g.first = (let h := headLife (look (u.sec g.first)); if h = 4294967295 then (3, u, h) else
      let a := u.write (g.first : Nat) (made 0 (h + 1) 0 4 0 zeros48); if a.1 ≠ 0 then (a.1, a.2, h) else (a.2.flush.1, a.2.flush.2, h)) := by
      simp only [U.begin, hu]; rfl
    generalize u.begin g.first = r at hb ⊢
    generalize look (u.sec g.first) = s at HR hok hb ⊢
    have HBE := hid hb
    have h0 := hok.li
    have HSl : Hid ((secCells s).length = 53) := hid (by rw [sec_len, hok.by48])
    have HA := hid h; have HP := hid hp
    have hbgl : Hid (bg < w.heap.size) := hid h.2.1.lt
    clear hb h hp hn hu
    have hkd : (s.kind : Int) ≤ 255 := by have := hok.kd; omega
    have hpd : (s.place : Int) ≤ 65535 := by have := hok.pl; omega
    go_enter Tryz.func93, Tryz.ntmps93
    go_wp2_with fail
    refine HR.out.mono ?_
    rintro e w1 ⟨rfl, hf⟩
    have HF1 := hid hf; clear hf
    by_cases hh : s.right = true ∧ s.kind = 4 ∧ s.place = 0
    · have HL : Hid (headLife s = s.life) := hid (if_pos hh)
      obtain ⟨hr, hk, hpz⟩ := hh
      have k4 : ((s.kind : Int) == 4) = true := by simp; omega
      have p0 : ((s.place : Int) == 0) = true := by simp; omega
      rw [hr]
      by_cases hm : s.life = 4294967295
      · have m1 : ((s.life : Int) == 4294967295) = true := by simp; omega
        go_wp2_with (first
          | ((with_reducible show wpList _ _ _ (⟨_, .alloc 148, _, _, _, _⟩ :: _) _ _); refine wpL_alloc rfl _ rfl _ zero87 (secCells noSec) rfl ?_; intro w2 HB2 HF2 HS2)
          | ((with_reducible show wpList _ _ _ (⟨_, .store 148 _ _, _, _, _, _⟩ :: _) _ _); refine wpL_store rfl _ _ _ rfl w1.heap.size 0 (secCells s) rfl rfl _ _ HB2.out (by rw [HSl.out]; decide) (by rw [info87, HSl.out]) (sec_one _) ?_; intro w3 HB3 HF3 HS3;
              have HB3' : Hid (Blk w3 w1.heap.size 148 (secCells s)) := hid (by have := HB3.out; rwa [spl_all (by rw [HSl.out]; rfl)] at this);
              have b3 : w3.cell? ⟨w1.heap.size, 3, none⟩ = some (.int .i64 s.kind) := HB3'.out.cell 3;
              have b2 : w3.cell? ⟨w1.heap.size, 2, none⟩ = some (.int .i64 s.place) := HB3'.out.cell 2;
              have b1 : w3.cell? ⟨w1.heap.size, 1, none⟩ = some (.int .u32 s.life) := HB3'.out.cell 1;
              have hF3 : Hid (Fr No w w3) := hid ((HF1.out.trans' HF2.out).trans HF3.out (fun k hk => .inr (by rw [hk]; exact HF1.out.size)));
              have c4 : w3.cell? ⟨bg, 4, none⟩ = some (.int .u32 0) := (by have := hF3.out.cell (HA.out.2.1.cell 4) id; rw [this]; simp [lgCells, hg]);
              have f4 : w3.frozen? ⟨bg, 4, none⟩ = false := (HA.out.2.1.fr hF3.out id).frozen 4)
          | ((with_reducible show wpList _ _ _ (⟨_, .build 148 _, _, _, _, _⟩ :: _) _ _); refine wpL_build rfl _ [(1, .tmp 48), (3, .const (.int .i64 4))] rfl _ (buildHead _ _) ?_))
        go_ret
        have e1 : r = (3, u, headLife s) := by
          have := HBE.out
          simp only [HL.out, hm, if_true] at this
          rw [this, HL.out, hm]
        rw [e1]
        have hx := (HA.out.no hF3.out).setLife 4294967295 (by decide)
        exact ⟨rfl, Z, 4294967295, hx, hF3.out.no.setCell _ _ (.inl (.inr rfl)), Grows.refl _ _, fun e => by simp at e⟩
      · have m1 : ((s.life : Int) == 4294967295) = false := by simp; omega
        have m2 : (s.life : Int) < 4294967295 := by omega
        go_wp2_with (first
          | ((with_reducible show wpList _ _ _ (⟨_, .alloc 148, _, _, _, _⟩ :: _) _ _); refine wpL_alloc rfl _ rfl _ zero87 (secCells noSec) rfl ?_; intro w2 HB2 HF2 HS2)
          | ((with_reducible show wpList _ _ _ (⟨_, .store 148 _ _, _, _, _, _⟩ :: _) _ _); refine wpL_store rfl _ _ _ rfl w1.heap.size 0 (secCells s) rfl rfl _ _ HB2.out (by rw [HSl.out]; decide) (by rw [info87, HSl.out]) (sec_one _) ?_; intro w3 HB3 HF3 HS3;
              have HB3' : Hid (Blk w3 w1.heap.size 148 (secCells s)) := hid (by have := HB3.out; rwa [spl_all (by rw [HSl.out]; rfl)] at this);
              have b3 : w3.cell? ⟨w1.heap.size, 3, none⟩ = some (.int .i64 s.kind) := HB3'.out.cell 3;
              have b2 : w3.cell? ⟨w1.heap.size, 2, none⟩ = some (.int .i64 s.place) := HB3'.out.cell 2;
              have b1 : w3.cell? ⟨w1.heap.size, 1, none⟩ = some (.int .u32 s.life) := HB3'.out.cell 1;
              have hF3 : Hid (Fr No w w3) := hid ((HF1.out.trans' HF2.out).trans HF3.out (fun k hk => .inr (by rw [hk]; exact HF1.out.size)));
              have c4 : w3.cell? ⟨bg, 4, none⟩ = some (.int .u32 0) := (by have := hF3.out.cell (HA.out.2.1.cell 4) id; rw [this]; simp [lgCells, hg]);
              have f4 : w3.frozen? ⟨bg, 4, none⟩ = false := (HA.out.2.1.fr hF3.out id).frozen 4)
          | ((with_reducible show wpList _ _ _ (⟨_, .build 148 _, _, _, _, _⟩ :: _) _ _); refine wpL_build rfl _ [(1, .tmp 48), (3, .const (.int .i64 4))] rfl _ (buildHead _ _) ?_))
        rw [show ((s.life : Int) + 1) = ((s.life + 1 : Nat) : Int) from rfl]
        have HFX : Hid (Fr (fun k => Z k ∨ k = bg) w ((w3.setCell ⟨bg, 4, none⟩ (.int .u32 s.life)).setCell ⟨bg, 4, none⟩ (.int .u32 ((s.life + 1 : Nat) : Int)))) := hid ((hF3.out.no.setCell _ _ (.inl (.inr rfl))).setCell _ _ (.inl (.inr rfl)))
        have HX := hid (((HA.out.no hF3.out).setLife s.life h0).setLife (s.life + 1) (by omega))
        refine (write_any _ bg bd Z _ u ⟨false, 0, s.life + 1, 0, 4, 0, zeros48⟩ HX.out (headOk (by omega)) HP.out).mono ?_
        rintro e' w5 ⟨rfl, Z1, hA, hF, hG⟩
        have hr' : r = (let a := u.write (g.first : Nat) (made 0 (s.life + 1) 0 4 0 zeros48); if a.1 ≠ 0 then (a.1, a.2, s.life) else (a.2.flush.1, a.2.flush.2, s.life)) := by
          have := HBE.out
          rw [HL.out] at this
          rw [this]
          exact if_neg (by omega)
        simp only [Nat.add_zero] at hA hF hG ⊢
        generalize u.write (g.first : Nat) (made 0 (s.life + 1) 0 4 0 zeros48) = a at hA hr' ⊢
        obtain ⟨a1, a2⟩ := a
        simp only at hA hr' ⊢
        have HA5 := hid hA
        have hZ1 : ∀ k, Z1 k → Z k ∨ w.heap.size ≤ k := fun k hk => (hG k hk).imp id (fun h => Nat.le_trans HFX.out.size h)
        have HZ1 := hid hZ1
        have HF5 : Hid (Fr (fun k => Z k ∨ k = bg) w w5) := hid (HFX.out.trans hF (fun k hk => .inl (.inl hk)))
        have HR' := hid hr'
        clear hA hF hG hr' hZ1
        by_cases ha : a1 = 0
        · subst ha
          have c0 : w5.cell? ⟨bg, 0, none⟩ = some (.pointer (some ⟨bd, 0, none⟩)) := HA5.out.2.1.cell 0
          go_wp2_with fail
          refine (dflush_any HA5.out.1).mono ?_
          rintro e' w6 ⟨rfl, hd, hf⟩
          have HA6 := hid (flush_at HA5.out hd hf)
          have HF6 : Hid (Fr (fun k => Z k ∨ k = bg) w w6) := hid (HF5.out.trans hf (fun k hk => (HZ1.out k hk).imp .inl id))
          have HR2 : Hid (r = (a2.flush.1, a2.flush.2, s.life)) := hid (HR'.out.trans (if_neg (by simp)))
          clear hd hf
          go_wp2_with fail
          go_ret
          rw [HR2.out]
          exact ⟨rfl, Z1, _, HA6.out, HF6.out, HZ1.out, fun _ => rfl⟩
        · have a0 : (a1 != 0) = true := by simp [ha]
          have HR2 : Hid (r = (a1, a2, s.life)) := hid (HR'.out.trans (if_pos ha))
          have HNA := hid ha; clear ha
          go_wp2_with fail
          go_ret
          rw [HR2.out]
          exact ⟨rfl, Z1, _, HA5.out, HF5.out, HZ1.out, fun e => absurd e HNA.out⟩

    · have HL : Hid (headLife s = 0) := hid (if_neg hh)
      have n3 : ¬ (s.right = true ∧ (s.kind : Int) = 4 ∧ (s.place : Int) = 0) := fun e => hh ⟨e.1, by omega, by omega⟩
      have hno : ((s.right && ((s.kind : Int) == 4)) && ((s.place : Int) == 0)) = false := by
        rw [Bool.eq_false_iff]; intro e; simp only [Bool.and_eq_true, beq_iff_eq] at e; exact n3 ⟨e.1.1, e.1.2, e.2⟩
      have N3 := hid n3
      clear n3 hh
      go_wp2_with (first
        | ((with_reducible show wpList _ _ _ (⟨_, .alloc 148, _, _, _, _⟩ :: _) _ _); refine wpL_alloc rfl _ rfl _ zero87 (secCells noSec) rfl ?_; intro w2 HB2 HF2 HS2)
        | ((with_reducible show wpList _ _ _ (⟨_, .store 148 _ _, _, _, _, _⟩ :: _) _ _); refine wpL_store rfl _ _ _ rfl w1.heap.size 0 (secCells s) rfl rfl _ _ HB2.out (by rw [HSl.out]; decide) (by rw [info87, HSl.out]) (sec_one _) ?_; intro w3 HB3 HF3 HS3;
            have HB3' : Hid (Blk w3 w1.heap.size 148 (secCells s)) := hid (by have := HB3.out; rwa [spl_all (by rw [HSl.out]; rfl)] at this);
            have b3 : w3.cell? ⟨w1.heap.size, 3, none⟩ = some (.int .i64 s.kind) := HB3'.out.cell 3;
            have b2 : w3.cell? ⟨w1.heap.size, 2, none⟩ = some (.int .i64 s.place) := HB3'.out.cell 2;
            have b1 : w3.cell? ⟨w1.heap.size, 1, none⟩ = some (.int .u32 s.life) := HB3'.out.cell 1;
            have hF3 : Hid (Fr No w w3) := hid ((HF1.out.trans' HF2.out).trans HF3.out (fun k hk => .inr (by rw [hk]; exact HF1.out.size)));
            have c4 : w3.cell? ⟨bg, 4, none⟩ = some (.int .u32 0) := (by have := hF3.out.cell (HA.out.2.1.cell 4) id; rw [this]; simp [lgCells, hg]);
            have f4 : w3.frozen? ⟨bg, 4, none⟩ = false := (HA.out.2.1.fr hF3.out id).frozen 4)
        | ((with_reducible show wpList _ _ _ (⟨_, .build 148 _, _, _, _, _⟩ :: _) _ _); refine wpL_build rfl _ [(1, .tmp 48), (3, .const (.int .i64 4))] rfl _ (buildHead _ _) ?_))
      all_goals
        first
        | (exfalso
           exact N3.out ⟨‹s.right = true›, ‹(s.kind : Int) = 4›, by simpa using ‹((s.place : Int) == 0) = true›⟩)
        | skip
      all_goals
          have HFX : Hid (Fr (fun k => Z k ∨ k = bg) w (w3.setCell ⟨bg, 4, none⟩ (.int .u32 1))) := hid (hF3.out.no.setCell _ _ (.inl (.inr rfl)))
          have HX := hid ((HA.out.no hF3.out).setLife (0 + 1) (by decide))
          refine (write_any _ bg bd Z _ u ⟨false, 0, 0 + 1, 0, 4, 0, zeros48⟩ HX.out (headOk (by omega)) HP.out).mono ?_
          rintro e' w5 ⟨rfl, Z1, hA, hF, hG⟩
          have hr' : r = (let a := u.write (g.first : Nat) (made 0 (0 + 1) 0 4 0 zeros48); if a.1 ≠ 0 then (a.1, a.2, 0) else (a.2.flush.1, a.2.flush.2, 0)) := by
            have := HBE.out
            rw [HL.out] at this
            rw [this]
            exact if_neg (by omega)
          simp only [Nat.add_zero] at hA hF hG ⊢
          generalize u.write (g.first : Nat) (made 0 (0 + 1) 0 4 0 zeros48) = a at hA hr' ⊢
          obtain ⟨a1, a2⟩ := a
          simp only at hA hr' ⊢
          have HA5 := hid hA
          have hZ1 : ∀ k, Z1 k → Z k ∨ w.heap.size ≤ k := fun k hk => (hG k hk).imp id (fun h => Nat.le_trans HFX.out.size h)
          have HZ1 := hid hZ1
          have HF5 : Hid (Fr (fun k => Z k ∨ k = bg) w w5) := hid (HFX.out.trans hF (fun k hk => .inl (.inl hk)))
          have HR' := hid hr'
          clear hA hF hG hr' hZ1
          by_cases ha : a1 = 0
          · subst ha
            have c0 : w5.cell? ⟨bg, 0, none⟩ = some (.pointer (some ⟨bd, 0, none⟩)) := HA5.out.2.1.cell 0
            go_wp2_with fail
            refine (dflush_any HA5.out.1).mono ?_
            rintro e' w6 ⟨rfl, hd, hf⟩
            have HA6 := hid (flush_at HA5.out hd hf)
            have HF6 : Hid (Fr (fun k => Z k ∨ k = bg) w w6) := hid (HF5.out.trans hf (fun k hk => (HZ1.out k hk).imp .inl id))
            have HR2 : Hid (r = (a2.flush.1, a2.flush.2, 0)) := hid (HR'.out.trans (if_neg (by simp)))
            clear hd hf
            go_wp2_with fail
            go_ret
            rw [HR2.out]
            exact ⟨rfl, Z1, _, HA6.out, HF6.out, HZ1.out, fun _ => rfl⟩
          · have a0 : (a1 != 0) = true := by simp [ha]
            have HR2 : Hid (r = (a1, a2, 0)) := hid (HR'.out.trans (if_pos ha))
            have HNA := hid ha; clear ha
            go_wp2_with fail
            go_ret
            rw [HR2.out]
            exact ⟨rfl, Z1, _, HA5.out, HF5.out, HZ1.out, fun e => absurd e HNA.out⟩
end Go.Proofs.YtflfmkokfbgclaaGreat.L
