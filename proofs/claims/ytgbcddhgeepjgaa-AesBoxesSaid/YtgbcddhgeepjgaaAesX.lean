/-
  The document's aes: mix.
-/
import Derived.Test.YtgbcddhgeepjgaaAesN
namespace Go.Proofs.Ytgbcddhgeepjgaa.AE
set_option maxRecDepth 100000
open Go.RowKit K

def rC (a : Nat → Nat) : Nat → Nat := fun k => times 2 (a k) ^^^ times 3 (a ((k + 1) % 4)) ^^^ a ((k + 2) % 4) ^^^ a ((k + 3) % 4)
theorem rC_by {a : Nat → Nat} (h : By a) : By (rC a) := fun k => xor_lt (xor_lt (xor_lt (times_lt (by decide) _) (times_lt (by decide) _)) (h _)) (h _)
theorem rmix_any (f : Nat → Nat) (w : World) (hf : By f) : Calls Try.prog 30 #[bk f 4] w fun e w' =>
    e = .returned (bk (rC f) 4) ∧ Fr No w w' := by
  have HF := hid hf; clear hf
  go_enter Try.func30, Try.ntmps30
  go_wp2_with (first
    | ((with_reducible show wpList _ _ _ ({ dst := _, op := .box 38 _, type := _, pos := _, after := _, guard := _ } :: _) _ _); refine wpL_box rfl _ _ rfl (bk f 4) rfl (b8 f 4) rfl ?_; intro w1 HB1 HF1 HS1)
    | ((with_reducible show wpList _ _ _ ({ dst := _, op := .alloc 38, type := _, pos := _, after := _, guard := _ } :: _) _ _); have := HB2; refine wpL_alloc rfl _ rfl _ zero4 (b8 (fun _ => 0) 4) rfl ?_; intro w3 HB3 HF3 HS3)
    | ((with_reducible show wpList _ _ _ ({ dst := _, op := .alloc 38, type := _, pos := _, after := _, guard := _ } :: _) _ _); refine wpL_alloc rfl _ rfl _ zero4 (b8 (fun _ => 0) 4) rfl ?_; intro w2 HB2 HF2 HS2))
  have hB1 := (HB1.out.fr HF2.out id).fr HF3.out id
  have hB2 := HB2.out.fr HF3.out id
  have hB3 := HB3.out
  have hf3 := (HF1.out.trans' HF2.out).trans' HF3.out
  obtain ⟨b1, hb1⟩ : ∃ b, w.heap.size = b := ⟨_, rfl⟩
  obtain ⟨b2, hb2⟩ : ∃ b, w1.heap.size = b := ⟨_, rfl⟩
  obtain ⟨b3, hb3⟩ : ∃ b, w2.heap.size = b := ⟨_, rfl⟩
  have hs1 := HS1.out; have hs2 := HS2.out
  rw [hb1, hb2] at hs1; rw [hb2, hb3] at hs2
  rw [hb1] at hB1; rw [hb2] at hB2; rw [hb3] at hB3
  rw [hb1, hb2, hb3]
  have HW := hid (show w.heap.size ≤ b3 ∧ w.heap.size ≤ b2 by omega); have HN := hid (show b1 ≠ b2 ∧ b1 ≠ b3 ∧ b2 ≠ b3 by omega)
  have HR := hid (show Blk w3 b1 38 (b8 f 4) ∧ Blk w3 b2 38 (b8 (fun _ => 0) 4) ∧ Blk w3 b3 38 (b8 (upto 0 (rC f) fun _ => 0) 4) ∧ Fr No w w3 by rw [upto_zero]; exact ⟨hB1, hB2, hB3, hf3⟩)
  clear HB1 HB2 HB3 HF1 HF2 HF3 HS1 HS2 HS3 this hB1 hB2 hB3 hf3 hb1 hb2 hb3 hs1 hs2
  go_loopw [4, 5, 6] (fun i _ _ wr => ∃ n : Nat, n ≤ 4 ∧ i = .int .i64 n ∧ Hid (Blk wr b1 38 (b8 f 4) ∧ Blk wr b2 38 (b8 (fun _ => 0) 4) ∧ Blk wr b3 38 (b8 (upto n (rC f) fun _ => 0) 4) ∧ Fr No w wr)) (fun i _ _ _ => 4 - (intOf i).toNat)
  case atStart => exact ⟨0, by omega, rfl, HR⟩
  case round =>
    clear HR
    obtain ⟨n, hn, rfl, HR⟩ := hrel
    by_cases hlt : n < 4
    · have c1 := blk_at HR.out.1 hlt
      have c2 := blk_at HR.out.1 (i := (n + 1) % 4) (Nat.mod_lt _ (by decide))
      go_wp2_with fail
      refine (rtimes_any 2 (f n) _ (by decide) (HF.out n)).mono ?_
      rintro e w' ⟨rfl, rfl⟩
      go_wp2_with fail
      refine (rtimes_any 3 (f ((n + 1) % 4)) _ (by decide) (HF.out _)).mono ?_
      rintro e w' ⟨rfl, rfl⟩
      clear c1 c2
      obtain ⟨X, hX⟩ : ∃ X, (n + 2) % 4 = X := ⟨_, rfl⟩
      obtain ⟨Y, hY⟩ : ∃ Y, (n + 3) % 4 = Y := ⟨_, rfl⟩
      have hX4 : X < 4 := by omega
      have hXi : (X : Int) < 4 := by omega
      have hY4 : Y < 4 := by omega
      have hYi : (Y : Int) < 4 := by omega
      have HX := hid hX; have HY := hid hY
      clear hX hY
      go_wp2_with fail
      have c1 := blk_at HR.out.1 hX4
      have c2 := blk_at HR.out.1 hY4
      have hold : Facts.hold [(8, fun w' => w'.cell? ⟨b1, X, none⟩ = some (.int .u8 (f X : Int))), (14, fun w' => w'.cell? ⟨b1, Y, none⟩ = some (.int .u8 (f Y : Int)))] wr.drew := Facts.cons_hold c1 (Facts.cons_hold c2 (Facts.nil_hold _))
      have l2 : times 2 (f n) < 256 := times_lt (by decide) _
      have l3 : times 3 (f ((n + 1) % 4)) < 256 := times_lt (by decide) _
      obtain ⟨p, hp⟩ : ∃ p, times 2 (f n) = p := ⟨_, rfl⟩
      obtain ⟨q, hq⟩ : ∃ q, times 3 (f ((n + 1) % 4)) = q := ⟨_, rfl⟩
      rw [hp] at l2; rw [hq] at l3
      have x1 : bits .xor .u8 (p : Int) (q : Int) = ((p ^^^ q : Nat) : Int) := xor8 l2 l3
      have x2 : bits .xor .u8 ((p ^^^ q : Nat) : Int) (f X : Int) = ((p ^^^ q ^^^ f X : Nat) : Int) := xor8 (xor_lt l2 l3) (HF.out X)
      have x3 : bits .xor .u8 ((p ^^^ q ^^^ f X : Nat) : Int) (f Y : Int) = ((rC f n : Nat) : Int) := by
        rw [xor8 (xor_lt (xor_lt l2 l3) (HF.out X)) (HF.out Y), ← hp, ← hq, ← HX.out, ← HY.out]
        rfl
      rw [hp, hq]
      have HL := hid (And.intro l2 l3)
      clear hp hq l2 l3
      refine wpD_region hold (by kernel_rfl) 18 rfl ?_
      (refine wpD_plain 0 (v := ?_) rfl (by kernel_rfl) (by kernel_rfl) (by kernel_rfl) (fun _ _ _ h => h) (by rfl) ?_ (by assumption) ?_; rotate_left; (intro _w; go_simp; try with_reducible rfl); simp only [Act.put, List.setIfInBounds_toArray, List.set_cons_zero, List.set_cons_succ])
      (refine wpD_plain 1 (v := ?_) rfl (by kernel_rfl) (by kernel_rfl) (by kernel_rfl) (fun _ _ _ h => h) (by rfl) ?_ (by assumption) ?_; rotate_left; (intro _w; go_simp; try with_reducible rfl); simp only [Act.put, List.setIfInBounds_toArray, List.set_cons_zero, List.set_cons_succ])
      (refine wpD_plain 2 (v := ?_) rfl (by kernel_rfl) (by kernel_rfl) (by kernel_rfl) (fun _ _ _ h => h) (by rfl) ?_ (by assumption) ?_; rotate_left; (intro _w; go_simp; try with_reducible rfl); simp only [Act.put, List.setIfInBounds_toArray, List.set_cons_zero, List.set_cons_succ])
      (refine wpD_plain 3 (v := ?_) rfl (by kernel_rfl) (by kernel_rfl) (by kernel_rfl) (fun _ _ _ h => h) (by rfl) ?_ (by assumption) ?_; rotate_left; (intro _w; go_simp; try with_reducible rfl); simp only [Act.put, List.setIfInBounds_toArray, List.set_cons_zero, List.set_cons_succ])
      (refine wpD_plain 4 (v := ?_) rfl (by kernel_rfl) (by kernel_rfl) (by kernel_rfl) (fun _ _ _ h => h) (by rfl) ?_ (by assumption) ?_; rotate_left; (intro _w; go_simp; try with_reducible rfl); simp only [Act.put, List.setIfInBounds_toArray, List.set_cons_zero, List.set_cons_succ])
      (refine wpD_plain 5 (v := (.int .i64 ((n + 2 : Nat) : Int))) rfl (by kernel_rfl) (by kernel_rfl) (by kernel_rfl) (fun _ _ _ h => h) (by rfl) ?_ (by assumption) ?_; (intro _w; go_simp; (rw [IntKind.wrap_i64]; omega)); simp only [Act.put, List.setIfInBounds_toArray, List.set_cons_zero, List.set_cons_succ])
      (refine wpD_plain 6 (v := (.int .i64 (X : Int))) rfl (by kernel_rfl) (by kernel_rfl) (by kernel_rfl) (fun _ _ _ h => h) (by rfl) ?_ (by assumption) ?_; (intro _w; go_simp; (have := HX.out; rw [Int.tmod_eq_emod_of_nonneg (by omega)]; omega)); simp only [Act.put, List.setIfInBounds_toArray, List.set_cons_zero, List.set_cons_succ])
      (refine wpD_plain 7 (v := ?_) rfl (by kernel_rfl) (by kernel_rfl) (by kernel_rfl) (fun _ _ _ h => h) (by rfl) ?_ (by assumption) ?_; rotate_left; (intro _w; go_simp; try with_reducible rfl); simp only [Act.put, List.setIfInBounds_toArray, List.set_cons_zero, List.set_cons_succ])
      (refine wpD_take 8 _ rfl (by kernel_rfl) (by kernel_rfl) (by kernel_rfl) (fun _ _ _ h => h) List.mem_cons_self (by rfl) (v := ?_) ?_ (by assumption) ?_; rotate_left; (intro _w _hw; go_simp; try with_reducible rfl); simp only [Act.put, List.setIfInBounds_toArray, List.set_cons_zero, List.set_cons_succ])
      (refine wpD_plain 9 (v := ?_) rfl (by kernel_rfl) (by kernel_rfl) (by kernel_rfl) (fun _ _ _ h => h) (by rfl) ?_ (by assumption) ?_; rotate_left; (intro _w; go_simp; try with_reducible rfl); simp only [Act.put, List.setIfInBounds_toArray, List.set_cons_zero, List.set_cons_succ])
      (refine wpD_plain 10 (v := ?_) rfl (by kernel_rfl) (by kernel_rfl) (by kernel_rfl) (fun _ _ _ h => h) (by rfl) ?_ (by assumption) ?_; rotate_left; (intro _w; go_simp; try with_reducible rfl); simp only [Act.put, List.setIfInBounds_toArray, List.set_cons_zero, List.set_cons_succ])
      (refine wpD_plain 11 (v := (.int .i64 ((n + 3 : Nat) : Int))) rfl (by kernel_rfl) (by kernel_rfl) (by kernel_rfl) (fun _ _ _ h => h) (by rfl) ?_ (by assumption) ?_; (intro _w; go_simp; (rw [IntKind.wrap_i64]; omega)); simp only [Act.put, List.setIfInBounds_toArray, List.set_cons_zero, List.set_cons_succ])
      (refine wpD_plain 12 (v := (.int .i64 (Y : Int))) rfl (by kernel_rfl) (by kernel_rfl) (by kernel_rfl) (fun _ _ _ h => h) (by rfl) ?_ (by assumption) ?_; (intro _w; go_simp; (have := HY.out; rw [Int.tmod_eq_emod_of_nonneg (by omega)]; omega)); simp only [Act.put, List.setIfInBounds_toArray, List.set_cons_zero, List.set_cons_succ])
      (refine wpD_plain 13 (v := ?_) rfl (by kernel_rfl) (by kernel_rfl) (by kernel_rfl) (fun _ _ _ h => h) (by rfl) ?_ (by assumption) ?_; rotate_left; (intro _w; go_simp; try with_reducible rfl); simp only [Act.put, List.setIfInBounds_toArray, List.set_cons_zero, List.set_cons_succ])
      (refine wpD_take 14 _ rfl (by kernel_rfl) (by kernel_rfl) (by kernel_rfl) (fun _ _ _ h => h) (List.mem_cons_of_mem _ List.mem_cons_self) (by rfl) (v := ?_) ?_ (by assumption) ?_; rotate_left; (intro _w _hw; go_simp; try with_reducible rfl); simp only [Act.put, List.setIfInBounds_toArray, List.set_cons_zero, List.set_cons_succ])
      (refine wpD_plain 15 (v := ?_) rfl (by kernel_rfl) (by kernel_rfl) (by kernel_rfl) (fun _ _ _ h => h) (by rfl) ?_ (by assumption) ?_; rotate_left; (intro _w; go_simp; try with_reducible rfl); simp only [Act.put, List.setIfInBounds_toArray, List.set_cons_zero, List.set_cons_succ])
      (refine wpD_plain 16 (v := ?_) rfl (by kernel_rfl) (by kernel_rfl) (by kernel_rfl) (fun _ _ _ h => h) (by rfl) ?_ (by assumption) ?_; rotate_left; (intro _w; go_simp; try with_reducible rfl); simp only [Act.put, List.setIfInBounds_toArray, List.set_cons_zero, List.set_cons_succ])
      refine wpD_only 17 [] rfl (by kernel_rfl) (by kernel_rfl) (by rfl) (fun K17 hK17 => ?_)
      refine wp_put _ _ _ rfl b3 n (rC f n) rfl rfl _ _ 4 HR.out.2.2.1.drew hlt info1 ?_
      intro w5 HB5 HF5 HS5
      refine hK17 _ _ (Facts.nil_hold _) ?_
      clear hK17 K17
      simp only [Act.put, List.setIfInBounds_toArray, List.set_cons_zero, List.set_cons_succ]
      refine wpD_done (by kernel_rfl) ?_ _
      have HR' := hid (show Blk w5 b1 38 (b8 f 4) ∧ Blk w5 b2 38 (b8 (fun _ => 0) 4) ∧ Blk w5 b3 38 (b8 (upto (n + 1) (rC f) fun _ => 0) 4) ∧ Fr No w w5 by
        rw [← upto_set]
        exact ⟨HR.out.1.drew.fr HF5.out HN.out.2.1, HR.out.2.1.drew.fr HF5.out HN.out.2.2, HB5.out, HR.out.2.2.2.drew.trans HF5.out fun i e => .inr (by have := HW.out; have : i = b3 := e; omega)⟩)
      clear HR HB5 HF5 HS5 hold c1 c2 x1 x2 x3 hXi hYi
      go_wp2_with fail
      go_roundw
      case rel => exact ⟨n + 1, by omega, by go_num, HR'⟩
      case measure => simp [intOf]; omega
    · obtain rfl : n = 4 := by omega
      go_wp2_with (first
        | ((with_reducible show wpList _ _ _ ({ dst := _, op := .load 38 _, type := _, pos := _, after := _, guard := _ } :: _) _ _); refine wpL_all rfl _ _ rfl b3 rfl _ (upto 4 (rC f) fun _ => 0) 4 _ HR.out.2.2.1 rfl rfl info4 ?_)
        | ((with_reducible show wpList _ _ _ ({ dst := _, op := .store 38 _ _, type := _, pos := _, after := _, guard := _ } :: _) _ _); refine wpL_whole rfl _ _ _ rfl b2 (upto 4 (rC f) fun _ => 0) 4 rfl rfl _ _ HR.out.2.1 info4 ?_; intro w5 HB5 HF5 HS5)
        | fail)
      have hB5 := HB5.out
      rw [upto_all] at hB5
      refine ret_cell rfl _ rfl hB5 rfl rfl (by simpa using info4) rfl ?_
      exact ⟨rfl, HR.out.2.2.2.trans HF5.out fun i e => .inr (by have := HW.out; have : i = b2 := e; omega)⟩
end Go.Proofs.Ytgbcddhgeepjgaa.AE
