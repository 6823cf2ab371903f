/-
  Package aes: Expand.
-/
import Derived.Test.YtgbcddhgeepjgaaAesF
namespace Go.Proofs.Ytgbcddhgeepjgaa.AE
set_option maxRecDepth 100000
open Go.RowKit K

theorem zero176 (w : World) : (zeroValue 28).run Try.prog w = .ok (bk (fun _ => 0) 176) w := by kernel_rfl
theorem info176 : (Try.prog.info? 28).map (·.size) = some 176 := by kernel_rfl
/-- The first n round keys. -/
def kb (k : Nat → Nat) (n : Nat) : Nat → Nat := upto (16 * n) (fl (keys k)) fun _ => 0
theorem kb_zero (k : Nat → Nat) : kb k 0 = fun _ => 0 := upto_zero _ _
theorem kb_step (k : Nat → Nat) (n : Nat) (o : Nat) (ho : o = n * 16) : ∀ i, i < 176 → over (kb k n) o 16 (keys k n) i = kb k (n + 1) i := by
  intro i _
  subst ho
  unfold over kb upto fl
  by_cases h1 : n * 16 ≤ i ∧ i < n * 16 + 16
  · rw [if_pos h1, if_pos (by omega), show i / 16 = n by omega, show i % 16 = i - n * 16 by omega]
  · rw [if_neg h1]
    by_cases h2 : i < 16 * n
    · rw [if_pos h2, if_pos (by omega)]
    · rw [if_neg h2, if_neg (by omega)]
theorem kb_at (k : Nat → Nat) {n r : Nat} (hr : r < n) : ∀ i, i < 16 → kb k n (r * 16 + i) = keys k r i := by
  intro i hi
  unfold kb upto fl
  rw [if_pos (by omega), show (r * 16 + i) / 16 = r by omega, show (r * 16 + i) % 16 = i by omega]
theorem kb_all (k : Nat → Nat) : b8 (kb k 11) 176 = b8 (fl (keys k)) 176 := upto_all _ _ 176
theorem fl_at (k : Nat → Nat → Nat) (r : Nat) : ∀ i, i < 16 → fl k (r * 16 + i) = k r i := by
  intro i hi
  unfold fl
  rw [show (r * 16 + i) / 16 = r by omega, show (r * 16 + i) % 16 = i by omega]

theorem exp_any (k : Nat → Nat) (w : World) (hk : By k) : Calls Try.prog 15 #[bk k 16] w fun e w' =>
    e = .returned (bk (fl (keys k)) 176) ∧ Fr No w w' := by
  have HK := hid hk; clear hk
  go_enter Try.func15, Try.ntmps15
  go_wp2_with (first
    | ((with_reducible show wpList _ _ _ ({ dst := _, op := .box 27 _, type := _, pos := _, after := _, guard := _ } :: _) _ _); refine wpL_box rfl _ _ rfl (bk k 16) rfl (b8 k 16) rfl ?_; intro w1 HB1 HF1 HS1)
    | ((with_reducible show wpList _ _ _ ({ dst := _, op := .alloc 28, type := _, pos := _, after := _, guard := _ } :: _) _ _); have := HB2; refine wpL_alloc rfl _ rfl _ zero176 (b8 (fun _ => 0) 176) rfl ?_; intro w3 HB3 HF3 HS3)
    | ((with_reducible show wpList _ _ _ ({ dst := _, op := .alloc 28, type := _, pos := _, after := _, guard := _ } :: _) _ _); refine wpL_alloc rfl _ rfl _ zero176 (b8 (fun _ => 0) 176) rfl ?_; intro w2 HB2 HF2 HS2)
    | ((with_reducible show wpList _ _ _ ({ dst := _, op := .load 27 _, type := _, pos := _, after := _, guard := _ } :: _) _ _); refine wpL_all rfl _ _ rfl w.heap.size rfl _ k 16 _ ((HB1.out.fr HF2.out id).fr HF3.out id) rfl rfl info16 ?_)
    | ((with_reducible show wpList _ _ _ ({ dst := _, op := .store 27 _ _, type := _, pos := _, after := _, guard := _ } :: _) _ _); refine wpL_rowG rfl _ _ _ rfl w2.heap.size 0 k 16 rfl rfl _ _ (kb k 1) 176 HB3.out (by decide) (by have := kb_step k 0 0 rfl; rw [kb_zero] at this; exact this) info16 ?_; intro w4 HB4 HF4 HS4))
  have hB2 := (HB2.out.fr HF3.out id).fr HF4.out (fun e => by have := HS2.out; have : w1.heap.size = w2.heap.size := e; omega)
  have hB3 := HB4.out
  have hf3 := ((HF1.out.trans' HF2.out).trans' HF3.out).trans HF4.out fun i e => .inr (by have := HS1.out; have := HS2.out; have : i = w2.heap.size := e; omega)
  obtain ⟨b2, hb2⟩ : ∃ b, w1.heap.size = b := ⟨_, rfl⟩
  obtain ⟨b3, hb3⟩ : ∃ b, w2.heap.size = b := ⟨_, rfl⟩
  obtain ⟨b1, hb1⟩ : ∃ b, w.heap.size = b := ⟨_, rfl⟩
  have hs1 := HS1.out; have hs2 := HS2.out
  rw [hb2] at hs1; rw [hb2, hb3] at hs2
  rw [hb2] at hB2; rw [hb3] at hB3
  rw [hb2, hb3, hb1]
  have HW := hid (show w.heap.size ≤ b2 ∧ w.heap.size ≤ b3 by omega); have HN := hid (show b2 ≠ b3 by omega)
  have HR := hid (show Blk w4 b2 28 (b8 (fun _ => 0) 176) ∧ Blk w4 b3 28 (b8 (kb k (0 + 1)) 176) ∧ Fr No w w4 from ⟨hB2, hB3, hf3⟩)
  clear HB1 HB2 HB3 HB4 HF1 HF2 HF3 HF4 HS1 HS2 HS3 HS4 this hB2 hB3 hf3 hb1 hb2 hb3 hs1 hs2
  go_loopw [4, 5, 8] (fun c _ i wr => ∃ n : Nat, n ≤ 10 ∧ i = .int .i64 n ∧ c = .int .u8 (con n : Nat) ∧ Hid (Blk wr b2 28 (b8 (fun _ => 0) 176) ∧ Blk wr b3 28 (b8 (kb k (n + 1)) 176) ∧ Fr No w wr)) (fun _ _ i _ => 10 - (intOf i).toNat)
  case atStart => exact ⟨0, by omega, rfl, rfl, HR⟩
  case round =>
    clear HR
    obtain ⟨n, hn, rfl, rfl, HR⟩ := hrel
    by_cases hlt : n < 10
    · go_wp2_with (first
        | ((with_reducible show wpList _ _ _ ({ dst := _, op := .load 27 _, type := _, pos := _, after := _, guard := _ } :: _) _ _); refine wpL_partG rfl _ _ rfl b3 (n * 16) 16 rfl _ (kb k (n + 1)) (keys k n) 176 _ HR.out.2.1 (by omega) (kb_at k (by omega)) rfl rfl info16 ?_)
        | fail)
      refine (fol_any (keys k n) (con n) _ (keys_by HK.out n) (con_lt n)).mono ?_
      rintro e w5 ⟨rfl, hf5⟩
      have hr := HR.out
      have HR5 := hid (show Blk w5 b2 28 (b8 (fun _ => 0) 176) ∧ Blk w5 b3 28 (b8 (kb k (n + 1)) 176) ∧ Fr No w w5 from ⟨hr.1.fr hf5 id, hr.2.1.fr hf5 id, hr.2.2.trans' hf5⟩)
      clear HR hr hf5
      go_wp2_with (first
        | ((with_reducible show wpList _ _ _ ({ dst := _, op := .store 27 _ _, type := _, pos := _, after := _, guard := _ } :: _) _ _); refine wpL_rowG rfl _ _ _ rfl b3 ((n + 1) * 16) (keys k (n + 1)) 16 rfl rfl _ _ (kb k (n + 1 + 1)) 176 HR5.out.2.1 (by omega) (kb_step k (n + 1) _ rfl) info16 ?_; intro w6 HB6 HF6 HS6)
        | fail)
      refine (times_any (con n) 2 _ (con_lt n) (by decide)).mono ?_
      rintro e w' ⟨rfl, rfl⟩
      have HR' := hid (show Blk w6 b2 28 (b8 (fun _ => 0) 176) ∧ Blk w6 b3 28 (b8 (kb k (n + 1 + 1)) 176) ∧ Fr No w w6 from
        ⟨HR5.out.1.fr HF6.out HN.out, HB6.out, HR5.out.2.2.trans HF6.out fun i e => .inr (by have := HW.out; have : i = b3 := e; omega)⟩)
      clear HR5 HB6 HF6 HS6
      go_wp2_with fail
      go_roundw
      case rel => exact ⟨n + 1, by omega, by go_num, rfl, HR'⟩
      case measure => simp [intOf]; omega
    · obtain rfl : n = 10 := by omega
      go_wp2_with (first
        | ((with_reducible show wpList _ _ _ ({ dst := _, op := .load 28 _, type := _, pos := _, after := _, guard := _ } :: _) _ _); refine wpL_all rfl _ _ rfl b3 rfl _ (kb k 11) 176 _ HR.out.2.1 rfl rfl info176 ?_)
        | ((with_reducible show wpList _ _ _ ({ dst := _, op := .store 28 _ _, type := _, pos := _, after := _, guard := _ } :: _) _ _); refine wpL_whole rfl _ _ _ rfl b2 (kb k 11) 176 rfl rfl _ _ HR.out.1 info176 ?_; intro w5 HB5 HF5 HS5)
        | fail)
      have hB5 := HB5.out
      rw [kb_all] at hB5
      refine ret_cell rfl _ rfl hB5 rfl rfl (by simpa using info176) rfl ?_
      exact ⟨rfl, HR.out.2.2.trans HF5.out fun i e => .inr (by have := HW.out; have : i = b2 := e; omega)⟩
end Go.Proofs.Ytgbcddhgeepjgaa.AE
