/-
  The program's sha: a state's bytes.
-/
import Derived.Test.YtejbanlhgnlliaaDoorShaN
namespace Go.Proofs.YtejbanlhgnlliaaDoor.SH
set_option maxRecDepth 100000
open Go.RowKit K AR

def dg (h : Nat → Nat) : Nat → Nat := fun i => h (i / 4) / 2 ^ (24 - i % 4 * 8) % 256
set_option maxHeartbeats 1000000 in
theorem digest_any (h : Nat → Nat) (w : World) : Calls Tryd.prog 26 #[ba .u32 h 8] w fun e w' => e = .returned (ba .u8 (dg h) 32) ∧ Fr No w w' := by
  go_enter Tryd.func26, Tryd.ntmps26
  go_wp2_with (first
    | ((with_reducible show wpList _ _ _ ({ dst := _, op := .box 41 _, type := _, pos := _, after := _, guard := _ } :: _) _ _); refine wpL_box rfl _ _ rfl (ba .u32 h 8) rfl (bw .u32 h 8) rfl ?_; intro w1 HB1 HF1 HS1)
    | ((with_reducible show wpList _ _ _ ({ dst := _, op := .alloc 24, type := _, pos := _, after := _, guard := _ } :: _) _ _); have := HB2; refine wpL_alloc rfl _ rfl _ zero32b (bw .u8 (fun _ => 0) 32) rfl ?_; intro w3 HB3 HF3 HS3)
    | ((with_reducible show wpList _ _ _ ({ dst := _, op := .alloc 24, type := _, pos := _, after := _, guard := _ } :: _) _ _); refine wpL_alloc rfl _ rfl _ zero32b (bw .u8 (fun _ => 0) 32) rfl ?_; intro w2 HB2 HF2 HS2)
    | fail)
  obtain ⟨b1, hb1⟩ : ∃ b, w.heap.size = b := ⟨_, rfl⟩
  obtain ⟨b2, hb2⟩ : ∃ b, w1.heap.size = b := ⟨_, rfl⟩
  obtain ⟨b3, hb3⟩ : ∃ b, w2.heap.size = b := ⟨_, rfl⟩
  have HR := hid (show Blk w3 b1 41 (bw .u32 h 8) ∧ Blk w3 b2 24 (bw .u8 (fun _ => 0) 32) ∧ Blk w3 b3 24 (bw .u8 (upto 0 (dg h) fun _ => 0) 32) ∧ Fr No w w3 by
    rw [upto_zero, ← hb1, ← hb2, ← hb3]
    exact ⟨(HB1.out.fr HF2.out id).fr HF3.out id, HB2.out.fr HF3.out id, HB3.out, (HF1.out.trans' HF2.out).trans' HF3.out⟩)
  have HN := hid (show w.heap.size = b1 ∧ b1 < b2 ∧ b2 < b3 by have := HS1.out; have := HS2.out; omega)
  rw [hb1, hb2, hb3]
  clear HB1 HF1 HS1 HB2 HF2 HS2 HB3 HF3 HS3 hb1 hb2 hb3 this
  go_wp2_with fail
  go_loopw [5] (fun i wr => ∃ j : Nat, j ≤ 32 ∧ i = .int .i64 j ∧ Hid (Blk wr b1 41 (bw .u32 h 8) ∧ Blk wr b2 24 (bw .u8 (fun _ => 0) 32) ∧ Blk wr b3 24 (bw .u8 (upto j (dg h) fun _ => 0) 32) ∧ Fr No w wr)) (fun i _ => 32 - (intOf i).toNat)
  case atStart => exact ⟨0, by omega, rfl, HR⟩
  case round =>
    clear HR
    obtain ⟨j, hj, rfl, HR⟩ := hrel
    by_cases hlt : j < 32
    · have c1 := blk_at HR.out.1 (i := j / 4) (by omega)
      have hd : dg h j = h (j / 4) / 2 ^ (24 - j % 4 * 8) % 256 := rfl
      obtain ⟨x, hx⟩ : ∃ x, h (j / 4) = x := ⟨_, rfl⟩
      rw [hx] at c1 hd
      obtain ⟨q, hq⟩ : ∃ q, j / 4 = q := ⟨_, rfl⟩
      have hq2 : (j : Int) / 4 = (q : Int) := by omega
      have hq3 : (q : Int) < 8 := by omega
      obtain ⟨r, hr⟩ : ∃ r, 24 - j % 4 * 8 = r := ⟨_, rfl⟩
      have hr2 : (24 : Int) - 8 * ((j : Int) % 4) = (r : Int) := by omega
      have hr3 : (r : Int) ≤ 24 := by omega
      rw [hq] at c1
      rw [hr] at hd
      have hv : ((x : Int) / 2 ^ r % 256) = ((dg h j : Nat) : Int) := by rw [hd]; simp
      have HV := hid hv
      clear hv hd hx hq hr
      go_wp2_with (first
        | ((with_reducible show wpList _ _ _ ({ dst := _, op := .store 5 _ _, type := _, pos := _, after := _, guard := _ } :: _) _ _); refine wpL_put rfl _ _ _ rfl b3 j (dg h j) rfl (by first | exact congrArg (Value.int .u8) HV.out | rfl) _ _ 32 HR.out.2.2.1 hlt infoU8 ?_; intro w5 HB5 HF5 HS5)
        | fail)
      have HR' := hid (show Blk w5 b1 41 (bw .u32 h 8) ∧ Blk w5 b2 24 (bw .u8 (fun _ => 0) 32) ∧ Blk w5 b3 24 (bw .u8 (upto (j + 1) (dg h) fun _ => 0) 32) ∧ Fr No w w5 by
        have hn := HN.out
        rw [← upto_set]
        exact ⟨HR.out.1.fr HF5.out (by omega), HR.out.2.1.fr HF5.out (by omega), HB5.out, HR.out.2.2.2.trans HF5.out fun i e => .inr (by have : i = b3 := e; omega)⟩)
      clear HR HB5 HF5 HS5 c1
      go_wp2_with fail
      go_roundw
      case rel => exact ⟨j + 1, by omega, by go_num, HR'⟩
      case measure => simp [intOf]; omega
    · obtain rfl : j = 32 := by omega
      go_wp2_with (first
        | ((with_reducible show wpList _ _ _ ({ dst := _, op := .load 24 _, type := _, pos := _, after := _, guard := _ } :: _) _ _); refine wpL_all rfl _ _ rfl b3 rfl _ (upto 32 (dg h) fun _ => 0) 32 _ HR.out.2.2.1 rfl rfl info32b ?_)
        | ((with_reducible show wpList _ _ _ ({ dst := _, op := .store 24 _ _, type := _, pos := _, after := _, guard := _ } :: _) _ _); refine wpL_whole rfl _ _ _ rfl b2 (upto 32 (dg h) fun _ => 0) 32 rfl rfl _ _ HR.out.2.1 info32b ?_; intro w5 HB5 HF5 HS5)
        | fail)
      have hB5 := HB5.out
      rw [upto_all] at hB5
      refine ret_cell rfl _ rfl hB5 rfl rfl (by simpa using info32b) rfl ?_
      exact ⟨rfl, HR.out.2.2.2.trans HF5.out fun i e => .inr (by have := HN.out; have : i = b2 := e; omega)⟩
end Go.Proofs.YtejbanlhgnlliaaDoor.SH
