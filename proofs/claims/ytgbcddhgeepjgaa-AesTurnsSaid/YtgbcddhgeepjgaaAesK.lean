/-
  Package aes: combine, turn, replace.
-/
import Derived.Test.YtgbcddhgeepjgaaAesB
import Derived.Test.YtgbcddhgeepjgaaAesA
namespace Go.Proofs.Ytgbcddhgeepjgaa.AE
set_option maxRecDepth 100000
open Go.RowKit K

theorem zero16 (w : World) : (zeroValue 27).run Try.prog w = .ok (bk (fun _ => 0) 16) w := by kernel_rfl
theorem info16 : (Try.prog.info? 27).map (·.size) = some 16 := by kernel_rfl
theorem info1 : (Try.prog.info? 5).map (·.size) = some 1 := by kernel_rfl

theorem comb_any (f k : Nat → Nat) (w : World) (hf : By f) (hk : By k) : Calls Try.prog 26 #[bk f 16, bk k 16] w fun e w' =>
    e = .returned (bk (comb f k) 16) ∧ Fr No w w' := by
  have HF := hid hf; have HK := hid hk; clear hf hk
  go_enter Try.func26, Try.ntmps26
  go_wp2_with (first
    | ((with_reducible show wpList _ _ _ ({ dst := _, op := .box 27 _, type := _, pos := _, after := _, guard := _ } :: _) _ _); have := HB1; refine wpL_box rfl _ _ rfl (bk k 16) rfl (b8 k 16) rfl ?_; intro w2 HB2 HF2 HS2)
    | ((with_reducible show wpList _ _ _ ({ dst := _, op := .box 27 _, type := _, pos := _, after := _, guard := _ } :: _) _ _); refine wpL_box rfl _ _ rfl (bk f 16) rfl (b8 f 16) rfl ?_; intro w1 HB1 HF1 HS1)
    | ((with_reducible show wpList _ _ _ ({ dst := _, op := .alloc 27, type := _, pos := _, after := _, guard := _ } :: _) _ _); refine wpL_alloc rfl _ rfl _ zero16 (b8 (fun _ => 0) 16) rfl ?_; intro w3 HB3 HF3 HS3))
  have hB1 := (HB1.out.fr HF2.out id).fr HF3.out id
  have hB2 := HB2.out.fr HF3.out id
  have hB3 := HB3.out
  have hf3 := (HF1.out.trans' HF2.out).trans' HF3.out
  obtain ⟨b1, hb1⟩ : ∃ b, w.heap.size = b := ⟨_, rfl⟩
  obtain ⟨b2, hb2⟩ : ∃ b, w1.heap.size = b := ⟨_, rfl⟩
  obtain ⟨b3, hb3⟩ : ∃ b, w2.heap.size = b := ⟨_, rfl⟩
  have hs1 := HS1.out; have hs2 := HS2.out
  rw [hb1, hb2] at hs1; rw [hb2, hb3] at hs2
  rw [hb1] at hB1; rw [hb2] at hB2; rw [hb3] at hB3
  rw [hb1, hb2, hb3]
  have HW := hid hb1; have HN := hid (show b1 ≠ b2 ∧ b1 ≠ b3 ∧ b2 ≠ b3 by omega)
  have HR := hid (show Blk w3 b1 27 (b8 (upto 0 (comb f k) f) 16) ∧ Blk w3 b2 27 (b8 k 16) ∧ Blk w3 b3 27 (b8 (fun _ => 0) 16) ∧ Fr No w w3 by rw [upto_zero]; exact ⟨hB1, hB2, hB3, hf3⟩)
  have HG := hid (show w.heap.size ≤ b3 by omega)
  clear HB1 HB2 HB3 HF1 HF2 HF3 HS1 HS2 HS3 this hB1 hB2 hB3 hf3 hb1 hb2 hb3 hs1 hs2
  go_loopw [6] (fun i wr => ∃ n : Nat, n ≤ 16 ∧ i = .int .i64 n ∧ Hid (Blk wr b1 27 (b8 (upto n (comb f k) f) 16) ∧ Blk wr b2 27 (b8 k 16) ∧ Blk wr b3 27 (b8 (fun _ => 0) 16) ∧ Fr No w wr)) (fun i _ => 16 - (intOf i).toNat)
  case atStart => exact ⟨0, by omega, rfl, HR⟩
  case round =>
    clear HR
    obtain ⟨n, hn, rfl, HR⟩ := hrel
    by_cases hlt : n < 16
    · go_wp2_with fail
      have c1 := blk_at HR.out.1 hlt
      have c2 := blk_at HR.out.2.1 hlt
      rw [upto_get _ _ (Nat.le_refl n)] at c1
      have hold : Facts.hold [(2, fun w' => w'.cell? ⟨b1, n, none⟩ = some (.int .u8 (f n : Int))), (5, fun w' => w'.cell? ⟨b2, n, none⟩ = some (.int .u8 (k n : Int)))] wr.drew := Facts.cons_hold c1 (Facts.cons_hold c2 (Facts.nil_hold _))
      have hx : bits .xor .u8 (f n : Int) (k n : Int) = ((comb f k n : Nat) : Int) := xor8 (HF.out n) (HK.out n)
      refine wpD_region hold (by kernel_rfl) 9 rfl ?_
      (refine wpD_plain 0 (v := ?_) rfl (by kernel_rfl) (by kernel_rfl) (by kernel_rfl) (fun _ _ _ h => h) (by rfl) ?_ (by assumption) ?_; rotate_left; (intro _w; go_simp; try with_reducible rfl); simp only [Act.put, List.setIfInBounds_toArray, List.set_cons_zero, List.set_cons_succ])
      (refine wpD_plain 1 (v := ?_) rfl (by kernel_rfl) (by kernel_rfl) (by kernel_rfl) (fun _ _ _ h => h) (by rfl) ?_ (by assumption) ?_; rotate_left; (intro _w; go_simp; try with_reducible rfl); simp only [Act.put, List.setIfInBounds_toArray, List.set_cons_zero, List.set_cons_succ])
      (refine wpD_take 2 _ rfl (by kernel_rfl) (by kernel_rfl) (by kernel_rfl) (fun _ _ _ h => h) List.mem_cons_self (by rfl) (v := ?_) ?_ (by assumption) ?_; rotate_left; (intro _w _hw; go_simp; try with_reducible rfl); simp only [Act.put, List.setIfInBounds_toArray, List.set_cons_zero, List.set_cons_succ])
      (refine wpD_plain 3 (v := ?_) rfl (by kernel_rfl) (by kernel_rfl) (by kernel_rfl) (fun _ _ _ h => h) (by rfl) ?_ (by assumption) ?_; rotate_left; (intro _w; go_simp; try with_reducible rfl); simp only [Act.put, List.setIfInBounds_toArray, List.set_cons_zero, List.set_cons_succ])
      (refine wpD_plain 4 (v := ?_) rfl (by kernel_rfl) (by kernel_rfl) (by kernel_rfl) (fun _ _ _ h => h) (by rfl) ?_ (by assumption) ?_; rotate_left; (intro _w; go_simp; try with_reducible rfl); simp only [Act.put, List.setIfInBounds_toArray, List.set_cons_zero, List.set_cons_succ])
      (refine wpD_take 5 _ rfl (by kernel_rfl) (by kernel_rfl) (by kernel_rfl) (fun _ _ _ h => h) (List.mem_cons_of_mem _ List.mem_cons_self) (by rfl) (v := ?_) ?_ (by assumption) ?_; rotate_left; (intro _w _hw; go_simp; try with_reducible rfl); simp only [Act.put, List.setIfInBounds_toArray, List.set_cons_zero, List.set_cons_succ])
      (refine wpD_plain 6 (v := ?_) rfl (by kernel_rfl) (by kernel_rfl) (by kernel_rfl) (fun _ _ _ h => h) (by rfl) ?_ (by assumption) ?_; rotate_left; (intro _w; go_simp; try with_reducible rfl); simp only [Act.put, List.setIfInBounds_toArray, List.set_cons_zero, List.set_cons_succ])
      (refine wpD_plain 7 (v := ?_) rfl (by kernel_rfl) (by kernel_rfl) (by kernel_rfl) (fun _ _ _ h => h) (by rfl) ?_ (by assumption) ?_; rotate_left; (intro _w; go_simp; try with_reducible rfl); simp only [Act.put, List.setIfInBounds_toArray, List.set_cons_zero, List.set_cons_succ])
      refine wpD_only 8 [] rfl (by kernel_rfl) (by kernel_rfl) (by rfl) (fun K8 hK8 => ?_)
      refine wp_put _ _ _ rfl b1 n (comb f k n) rfl rfl _ _ 16 HR.out.1.drew hlt info1 ?_
      intro w5 HB5 HF5 HS5
      refine hK8 _ _ (Facts.nil_hold _) ?_
      clear hK8 K8
      simp only [Act.put, List.setIfInBounds_toArray, List.set_cons_zero, List.set_cons_succ]
      refine wpD_done (by kernel_rfl) ?_ _
      have HR' := hid (show Blk w5 b1 27 (b8 (upto (n + 1) (comb f k) f) 16) ∧ Blk w5 b2 27 (b8 k 16) ∧ Blk w5 b3 27 (b8 (fun _ => 0) 16) ∧ Fr No w w5 by
        rw [← upto_set]
        exact ⟨HB5.out, HR.out.2.1.drew.fr HF5.out (fun e => HN.out.1 e.symm), HR.out.2.2.1.drew.fr HF5.out (fun e => HN.out.2.1 e.symm), HR.out.2.2.2.drew.trans HF5.out fun i e => .inr (by have := HW.out; have : i = b1 := e; omega)⟩)
      clear HR HB5 HF5 HS5 hold c1 c2 hx
      go_wp2_with fail
      go_roundw
      case rel => exact ⟨n + 1, by omega, by go_num, HR'⟩
      case measure => simp [intOf]; omega
    · obtain rfl : n = 16 := by omega
      go_wp2_with (first
        | ((with_reducible show wpList _ _ _ ({ dst := _, op := .load 27 _, type := _, pos := _, after := _, guard := _ } :: _) _ _); refine wpL_all rfl _ _ rfl b1 rfl _ (upto 16 (comb f k) f) 16 _ HR.out.1 rfl rfl info16 ?_)
        | ((with_reducible show wpList _ _ _ ({ dst := _, op := .store 27 _ _, type := _, pos := _, after := _, guard := _ } :: _) _ _); refine wpL_whole rfl _ _ _ rfl b3 (upto 16 (comb f k) f) 16 rfl rfl _ _ HR.out.2.2.1 info16 ?_; intro w5 HB5 HF5 HS5)
        | fail)
      have hB5 := HB5.out
      rw [upto_all] at hB5
      refine ret_cell rfl _ rfl hB5 rfl rfl (by simpa using info16) rfl ?_
      exact ⟨rfl, HR.out.2.2.2.trans HF5.out fun i e => .inr (by have := HG.out; have : i = b3 := e; omega)⟩
theorem turn_any (t : Nat) (f : Nat → Nat) (w : World) (ht : t = 1 ∨ t = 3) : Calls Try.prog 27 #[bk f 16, .int .i64 t] w fun e w' =>
    e = .returned (bk (trn t f) 16) ∧ Fr No w w' := by
  have HT := hid ht; clear ht
  go_enter Try.func27, Try.ntmps27
  go_wp2_with (first
    | ((with_reducible show wpList _ _ _ ({ dst := _, op := .box 27 _, type := _, pos := _, after := _, guard := _ } :: _) _ _); refine wpL_box rfl _ _ rfl (bk f 16) rfl (b8 f 16) rfl ?_; intro w1 HB1 HF1 HS1)
    | ((with_reducible show wpList _ _ _ ({ dst := _, op := .alloc 27, type := _, pos := _, after := _, guard := _ } :: _) _ _); have := HB2; refine wpL_alloc rfl _ rfl _ zero16 (b8 (fun _ => 0) 16) rfl ?_; intro w3 HB3 HF3 HS3)
    | ((with_reducible show wpList _ _ _ ({ dst := _, op := .alloc 27, type := _, pos := _, after := _, guard := _ } :: _) _ _); refine wpL_alloc rfl _ rfl _ zero16 (b8 (fun _ => 0) 16) rfl ?_; intro w2 HB2 HF2 HS2))
  have hB1 := (HB1.out.fr HF2.out id).fr HF3.out id
  have hB2 := HB2.out.fr HF3.out id
  have hB3 := HB3.out
  have hf3 := (HF1.out.trans' HF2.out).trans' HF3.out
  obtain ⟨b1, hb1⟩ : ∃ b, w.heap.size = b := ⟨_, rfl⟩
  obtain ⟨b2, hb2⟩ : ∃ b, w1.heap.size = b := ⟨_, rfl⟩
  obtain ⟨b3, hb3⟩ : ∃ b, w2.heap.size = b := ⟨_, rfl⟩
  have hs1 := HS1.out; have hs2 := HS2.out
  rw [hb1, hb2] at hs1; rw [hb2, hb3] at hs2
  rw [hb1] at hB1; rw [hb2] at hB2; rw [hb3] at hB3
  rw [hb1, hb2, hb3]
  have HW := hid (show w.heap.size ≤ b3 ∧ w.heap.size ≤ b2 by omega); have HN := hid (show b1 ≠ b2 ∧ b1 ≠ b3 ∧ b2 ≠ b3 by omega)
  have HR := hid (show Blk w3 b1 27 (b8 f 16) ∧ Blk w3 b2 27 (b8 (fun _ => 0) 16) ∧ Blk w3 b3 27 (b8 (upto 0 (trn t f) fun _ => 0) 16) ∧ Fr No w w3 by rw [upto_zero]; exact ⟨hB1, hB2, hB3, hf3⟩)
  clear HB1 HB2 HB3 HF1 HF2 HF3 HS1 HS2 HS3 this hB1 hB2 hB3 hf3 hb1 hb2 hb3 hs1 hs2
  go_loopw [6, 7, 8] (fun _ _ i wr => ∃ n : Nat, n ≤ 16 ∧ i = .int .i64 n ∧ Hid (Blk wr b1 27 (b8 f 16) ∧ Blk wr b2 27 (b8 (fun _ => 0) 16) ∧ Blk wr b3 27 (b8 (upto n (trn t f) fun _ => 0) 16) ∧ Fr No w wr)) (fun _ _ i _ => 16 - (intOf i).toNat)
  case atStart => exact ⟨0, by omega, rfl, HR⟩
  case round =>
    clear HR
    obtain ⟨n, hn, rfl, HR⟩ := hrel
    by_cases hlt : n < 16
    · have c1 := blk_at HR.out.1 (i := (n + 4 * (n % 4) * t) % 16) (Nat.mod_lt _ (by decide))
      rcases HT.out with rfl | rfl
      · rw [Nat.mul_one] at c1
        go_wp2_with (first
          | ((with_reducible show wpList _ _ _ ({ dst := _, op := .store 5 _ _, type := _, pos := _, after := _, guard := _ } :: _) _ _); refine wpL_put rfl _ _ _ rfl b3 n (trn 1 f n) rfl (by simp [trn, Act.eval]) _ _ 16 HR.out.2.2.1 hlt info1 ?_; intro w5 HB5 HF5 HS5)
          | fail)
        have HR' := hid (show Blk w5 b1 27 (b8 f 16) ∧ Blk w5 b2 27 (b8 (fun _ => 0) 16) ∧ Blk w5 b3 27 (b8 (upto (n + 1) (trn 1 f) fun _ => 0) 16) ∧ Fr No w w5 by
          rw [← upto_set]
          exact ⟨HR.out.1.fr HF5.out HN.out.2.1, HR.out.2.1.fr HF5.out HN.out.2.2, HB5.out, HR.out.2.2.2.trans HF5.out fun i e => .inr (by have := HW.out; have : i = b3 := e; omega)⟩)
        clear HR HB5 HF5 HS5 c1
        go_wp2_with fail
        go_roundw
        case rel => exact ⟨_, _, _, ⟨n + 1, by omega, rfl, HR'⟩, rfl, rfl, rfl⟩
        case measure => simp [intOf]; omega
      · skip
        go_wp2_with (first
          | ((with_reducible show wpList _ _ _ ({ dst := _, op := .store 5 _ _, type := _, pos := _, after := _, guard := _ } :: _) _ _); refine wpL_put rfl _ _ _ rfl b3 n (trn 3 f n) rfl (by simp [trn, Act.eval]) _ _ 16 HR.out.2.2.1 hlt info1 ?_; intro w5 HB5 HF5 HS5)
          | fail)
        have HR' := hid (show Blk w5 b1 27 (b8 f 16) ∧ Blk w5 b2 27 (b8 (fun _ => 0) 16) ∧ Blk w5 b3 27 (b8 (upto (n + 1) (trn 3 f) fun _ => 0) 16) ∧ Fr No w w5 by
          rw [← upto_set]
          exact ⟨HR.out.1.fr HF5.out HN.out.2.1, HR.out.2.1.fr HF5.out HN.out.2.2, HB5.out, HR.out.2.2.2.trans HF5.out fun i e => .inr (by have := HW.out; have : i = b3 := e; omega)⟩)
        clear HR HB5 HF5 HS5 c1
        go_wp2_with fail
        go_roundw
        case rel => exact ⟨_, _, _, ⟨n + 1, by omega, rfl, HR'⟩, rfl, rfl, rfl⟩
        case measure => simp [intOf]; omega
    · obtain rfl : n = 16 := by omega
      go_wp2_with (first
        | ((with_reducible show wpList _ _ _ ({ dst := _, op := .load 27 _, type := _, pos := _, after := _, guard := _ } :: _) _ _); refine wpL_all rfl _ _ rfl b3 rfl _ (upto 16 (trn t f) fun _ => 0) 16 _ HR.out.2.2.1 rfl rfl info16 ?_)
        | ((with_reducible show wpList _ _ _ ({ dst := _, op := .store 27 _ _, type := _, pos := _, after := _, guard := _ } :: _) _ _); refine wpL_whole rfl _ _ _ rfl b2 (upto 16 (trn t f) fun _ => 0) 16 rfl rfl _ _ HR.out.2.1 info16 ?_; intro w5 HB5 HF5 HS5)
        | fail)
      have hB5 := HB5.out
      rw [upto_all] at hB5
      refine ret_cell rfl _ rfl hB5 rfl rfl (by simpa using info16) rfl ?_
      exact ⟨rfl, HR.out.2.2.2.trans HF5.out fun i e => .inr (by have := HW.out; have : i = b2 := e; omega)⟩
end Go.Proofs.Ytgbcddhgeepjgaa.AE
