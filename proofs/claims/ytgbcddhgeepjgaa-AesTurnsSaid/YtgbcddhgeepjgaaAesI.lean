/-
  The laws of stage 6 that speak of blocks: AesKeys, AesTurns, AesBack, AesApart.
-/
import Derived.Test.YtgbcddhgeepjgaaAesW
namespace Go.Proofs.Ytgbcddhgeepjgaa.AE
set_option maxRecDepth 100000
open Go.RowKit K

theorem aesKeys_walk (W : World) (k : Nat → Nat) (hk : By k) : Calls Try.prog 7 #[bk k 16] W fun e w' => e = .returned (.bool true) ∧ Fr No W w' := by
  have HK := hid hk; clear hk
  go_enter Try.func7, Try.ntmps7
  go_wp2_with (first
    | ((with_reducible show wpList _ _ _ ({ dst := _, op := .box 27 _, type := _, pos := _, after := _, guard := _ } :: _) _ _); refine wpL_box rfl _ _ rfl (bk k 16) rfl (b8 k 16) rfl ?_; intro w1 HB1 HF1 HS1)
    | ((with_reducible show wpList _ _ _ ({ dst := _, op := .load 27 _, type := _, pos := _, after := _, guard := _ } :: _) _ _); refine wpL_all rfl _ _ rfl W.heap.size rfl _ k 16 _ HB1.out rfl rfl info16 ?_))
  refine (exp_any k _ HK.out).mono ?_
  rintro e w2 ⟨rfl, hf2⟩
  have HB2 := hid (HB1.out.fr hf2 id)
  have HF2 := hid (HF1.out.trans' hf2)
  clear hf2 HB1 HF1 HS1
  go_wp2_with (first
    | ((with_reducible show wpList _ _ _ ({ dst := _, op := .alloc 28, type := _, pos := _, after := _, guard := _ } :: _) _ _); refine wpL_alloc rfl _ rfl _ zero176 (b8 (fun _ => 0) 176) rfl ?_; intro w3 HB3 HF3 HS3)
    | ((with_reducible show wpList _ _ _ ({ dst := _, op := .store 28 _ _, type := _, pos := _, after := _, guard := _ } :: _) _ _); refine wpL_whole rfl _ _ _ rfl w2.heap.size (fl (keys k)) 176 rfl rfl _ _ HB3.out info176 ?_; intro w4 HB4 HF4 HS4))
  obtain ⟨b1, hb1⟩ : ∃ b, W.heap.size = b := ⟨_, rfl⟩
  obtain ⟨b3, hb3⟩ : ∃ b, w2.heap.size = b := ⟨_, rfl⟩
  have hl := HB2.out.lt
  have hs := HF2.out.size
  have hB1 := (HB2.out.fr HF3.out id).fr HF4.out (fun e => by have : W.heap.size = w2.heap.size := e; omega)
  have hB3 := HB4.out
  have hf := (HF2.out.trans' HF3.out).trans HF4.out fun i e => .inr (by have : i = w2.heap.size := e; omega)
  rw [hb1] at hB1; rw [hb3] at hB3
  rw [hb1, hb3]
  have HR := hid (show Blk w4 b1 27 (b8 k 16) ∧ Blk w4 b3 28 (b8 (fl (keys k)) 176) ∧ Fr No W w4 from ⟨hB1, hB3, hf⟩)
  clear HB2 HF2 HB3 HF3 HS3 HB4 HF4 HS4 hl hs hB1 hB3 hf hb1 hb3
  have q6 := blk_row HR.out.2.1 0 16 (by decide)
  rw [b8_congr (show ∀ i, i < 16 → fl (keys k) (0 + i) = k i from fun i hi => by rw [Nat.zero_add]; exact fl_first k hi)] at q6
  have hold : Facts.hold [(0, fun w' => w'.rangeAt b3 0 (b8 (fl (keys k)) 176)), (1, fun w' => w'.rangeAt b1 0 (b8 k 16)), (6, fun w' => w'.rangeAt b3 0 (b8 k 16)), (7, fun w' => w'.rangeAt b1 0 (b8 k 16))] w4.drew :=
    Facts.cons_hold (blk_whole HR.out.2.1) (Facts.cons_hold (blk_whole HR.out.1) (Facts.cons_hold q6 (Facts.cons_hold (blk_whole HR.out.1) (Facts.nil_hold _))))
  refine wpD_region hold (by kernel_rfl) 11 rfl ?_
  (refine wpD_take 0 _ rfl (by kernel_rfl) (by kernel_rfl) (by kernel_rfl) (fun _ _ _ h => h) List.mem_cons_self (by rfl) (exec_load _ _ rfl b3 0 rfl _ _ rfl rfl (by simpa using info176)) (by assumption) ?_; simp only [Act.put, List.setIfInBounds_toArray, List.set_cons_zero, List.set_cons_succ])
  (refine wpD_take 1 _ rfl (by kernel_rfl) (by kernel_rfl) (by kernel_rfl) (fun _ _ _ h => h) (List.mem_cons_of_mem _ List.mem_cons_self) (by rfl) (exec_load _ _ rfl b1 0 rfl _ _ rfl rfl (by simpa using info16)) (by assumption) ?_; simp only [Act.put, List.setIfInBounds_toArray, List.set_cons_zero, List.set_cons_succ])
  refine wpD_only 2 [(0, fun w' => w'.rangeAt b3 0 (b8 (fl (keys k)) 176)), (6, fun w' => w'.rangeAt b3 0 (b8 k 16)), (7, fun w' => w'.rangeAt b1 0 (b8 k 16))] rfl (by kernel_rfl) (by kernel_rfl) (by rfl) (fun K2 hK2 => ?_)
  refine wp_call _ [_] _ rfl _ [] rfl (fun _ _ => by kernel_rfl) [bk k 16] rfl ?_
  refine (rexp_any k _ HK.out).mono ?_
  rintro e w5 ⟨rfl, hf5⟩
  have hold5 : Facts.hold [(0, fun w' => w'.rangeAt b3 0 (b8 (fl (keys k)) 176)), (6, fun w' => w'.rangeAt b3 0 (b8 k 16)), (7, fun w' => w'.rangeAt b1 0 (b8 k 16))] w5 :=
    Facts.cons_hold (hf5.range (w := w4.drew) (blk_whole HR.out.2.1) id) (Facts.cons_hold (hf5.range (w := w4.drew) q6 id) (Facts.cons_hold (hf5.range (w := w4.drew) (blk_whole HR.out.1) id) (Facts.nil_hold _)))
  refine ⟨_, rfl, hK2 _ _ hold5 ?_⟩
  clear hK2 K2 hold
  simp only [Act.put, List.setIfInBounds_toArray, List.set_cons_zero, List.set_cons_succ]
  refine wpD_plain 3 (v := .bool true) rfl (by kernel_rfl) (by kernel_rfl) (by kernel_rfl) (fun _ _ _ h => h) (by rfl) (exec_eq176 _ _ _ rfl (fl (keys k)) (fl (keys k)) true (eqB_self _ _) rfl rfl) hold5 ?_
  simp only [Act.put, List.setIfInBounds_toArray, List.set_cons_zero, List.set_cons_succ]
  (refine wpD_plain 4 (v := ?_) rfl (by kernel_rfl) (by kernel_rfl) (by kernel_rfl) (fun _ _ _ h => h) (by rfl) ?_ (by assumption) ?_; rotate_left; (intro _w; go_simp; try with_reducible rfl); simp only [Act.put, List.setIfInBounds_toArray, List.set_cons_zero, List.set_cons_succ])
  (refine wpD_plain 5 (v := ?_) rfl (by kernel_rfl) (by kernel_rfl) (by kernel_rfl) (fun _ _ _ h => h) (by rfl) ?_ (by assumption) ?_; rotate_left; (intro _w; go_simp; try with_reducible rfl); simp only [Act.put, List.setIfInBounds_toArray, List.set_cons_zero, List.set_cons_succ])
  (refine wpD_take 6 _ rfl (by kernel_rfl) (by kernel_rfl) (by kernel_rfl) (fun _ _ _ h => h) (List.mem_cons_of_mem _ List.mem_cons_self) (by rfl) (exec_load _ _ rfl b3 0 rfl _ _ rfl rfl (by simpa using info16)) (by assumption) ?_; simp only [Act.put, List.setIfInBounds_toArray, List.set_cons_zero, List.set_cons_succ])
  (refine wpD_take 7 _ rfl (by kernel_rfl) (by kernel_rfl) (by kernel_rfl) (fun _ _ _ h => h) (List.mem_cons_of_mem _ (List.mem_cons_of_mem _ List.mem_cons_self)) (by rfl) (exec_load _ _ rfl b1 0 rfl _ _ rfl rfl (by simpa using info16)) (by assumption) ?_; simp only [Act.put, List.setIfInBounds_toArray, List.set_cons_zero, List.set_cons_succ])
  refine wpD_plain 8 (v := .bool true) rfl (by kernel_rfl) (by kernel_rfl) (by kernel_rfl) (fun _ _ _ h => h) (by rfl) (exec_eq16 _ _ _ rfl k k true (eqB_self _ _) rfl rfl) hold5 ?_
  simp only [Act.put, List.setIfInBounds_toArray, List.set_cons_zero, List.set_cons_succ]
  (refine wpD_plain 9 (v := ?_) rfl (by kernel_rfl) (by kernel_rfl) (by kernel_rfl) (fun _ _ _ h => h) (by rfl) ?_ (by assumption) ?_; rotate_left; (intro _w; go_simp; try with_reducible rfl); simp only [Act.put, List.setIfInBounds_toArray, List.set_cons_zero, List.set_cons_succ])
  (refine wpD_plain 10 (v := ?_) rfl (by kernel_rfl) (by kernel_rfl) (by kernel_rfl) (fun _ _ _ h => h) (by rfl) ?_ (by assumption) ?_; rotate_left; (intro _w; go_simp; try with_reducible rfl); simp only [Act.put, List.setIfInBounds_toArray, List.set_cons_zero, List.set_cons_succ])
  refine wpD_done (by kernel_rfl) ?_ _
  go_wp2_with fail
  go_ret
  exact ⟨rfl, HR.out.2.2.drew.trans' hf5⟩

theorem aesTurns_walk (W : World) (k f : Nat → Nat) (hk : By k) (hf : By f) : Calls Try.prog 8 #[bk k 16, bk f 16] W fun e w' => e = .returned (.bool true) ∧ Fr No W w' := by
  have HK := hid hk; have HF := hid hf; clear hk hf
  go_enter Try.func8, Try.ntmps8
  go_wp2_with (first
    | ((with_reducible show wpList _ _ _ ({ dst := _, op := .box 27 _, type := _, pos := _, after := _, guard := _ } :: _) _ _); have := HB1; refine wpL_box rfl _ _ rfl (bk f 16) rfl (b8 f 16) rfl ?_; intro w2 HB2 HF2 HS2)
    | ((with_reducible show wpList _ _ _ ({ dst := _, op := .box 27 _, type := _, pos := _, after := _, guard := _ } :: _) _ _); refine wpL_box rfl _ _ rfl (bk k 16) rfl (b8 k 16) rfl ?_; intro w1 HB1 HF1 HS1))
  refine (awake_any _).mono ?_
  rintro e w3 ⟨rfl, hf3⟩
  obtain ⟨b1, hb1⟩ : ∃ b, W.heap.size = b := ⟨_, rfl⟩
  obtain ⟨b2, hb2⟩ : ∃ b, w1.heap.size = b := ⟨_, rfl⟩
  have hs1 := HS1.out
  have hB1 := (HB1.out.fr HF2.out id).fr hf3 id
  have hB2 := HB2.out.fr hf3 id
  have hg := (HF1.out.trans' HF2.out).trans' hf3
  rw [hb1, hb2] at hs1
  rw [hb1] at hB1; rw [hb2] at hB2
  rw [hb1, hb2]
  have HN := hid (show b1 ≠ b2 by omega)
  have HR := hid (show Blk w3 b1 27 (b8 k 16) ∧ Blk w3 b2 27 (b8 f 16) ∧ Fr No W w3 from ⟨hB1, hB2, hg⟩)
  clear HB1 HF1 HS1 HB2 HF2 HS2 hf3 hb1 hb2 hs1 hB1 hB2 hg this
  go_wp2_with (first
    | ((with_reducible show wpList _ _ _ ({ dst := _, op := .load 27 _, type := _, pos := _, after := _, guard := _ } :: _) _ _); have := HB7; refine wpL_all rfl _ _ rfl b2 rfl _ f 16 _ HR.out.2.1 rfl rfl info16 ?_)
    | ((with_reducible show wpList _ _ _ ({ dst := _, op := .load 27 _, type := _, pos := _, after := _, guard := _ } :: _) _ _); refine wpL_all rfl _ _ rfl b1 rfl _ k 16 _ HR.out.1 rfl rfl info16 ?_; have HB7 := hid trivial))
  refine (enc_any k f _ HK.out HF.out).mono ?_
  rintro e w4 ⟨rfl, hf4⟩
  have HR4 := hid (show Blk w4 b1 27 (b8 k 16) ∧ Blk w4 b2 27 (b8 f 16) ∧ Fr No W w4 from ⟨HR.out.1.fr hf4 id, HR.out.2.1.fr hf4 id, HR.out.2.2.trans' hf4⟩)
  clear HR hf4 this HB7
  go_wp2_with (first
    | ((with_reducible show wpList _ _ _ ({ dst := _, op := .alloc 27, type := _, pos := _, after := _, guard := _ } :: _) _ _); refine wpL_alloc rfl _ rfl _ zero16 (b8 (fun _ => 0) 16) rfl ?_; intro w5 HB5 HF5 HS5)
    | ((with_reducible show wpList _ _ _ ({ dst := _, op := .store 27 _ _, type := _, pos := _, after := _, guard := _ } :: _) _ _); refine wpL_whole rfl _ _ _ rfl w4.heap.size (enc k f) 16 rfl rfl _ _ HB5.out info16 ?_; intro w6 HB6 HF6 HS6))
  obtain ⟨b3, hb3⟩ : ∃ b, w4.heap.size = b := ⟨_, rfl⟩
  have l1 := HR4.out.1.lt; have l2 := HR4.out.2.1.lt; have hs := HR4.out.2.2.size
  have hB1 := (HR4.out.1.fr HF5.out id).fr HF6.out (fun e => by have : b1 = w4.heap.size := e; omega)
  have hB2 := (HR4.out.2.1.fr HF5.out id).fr HF6.out (fun e => by have : b2 = w4.heap.size := e; omega)
  have hB3 := HB6.out
  have hg := (HR4.out.2.2.trans' HF5.out).trans HF6.out fun i e => .inr (by have : i = w4.heap.size := e; omega)
  rw [hb3] at hB3
  rw [hb3]
  have HR := hid (show Blk w6 b1 27 (b8 k 16) ∧ Blk w6 b2 27 (b8 f 16) ∧ Blk w6 b3 27 (b8 (enc k f) 16) ∧ Fr No W w6 from ⟨hB1, hB2, hB3, hg⟩)
  clear HR4 HB5 HF5 HS5 HB6 HF6 HS6 hb3 l1 l2 hs hB1 hB2 hB3 hg
  have hold : Facts.hold [(2, fun w' => w'.rangeAt b3 0 (b8 (enc k f) 16)), (3, fun w' => w'.rangeAt b1 0 (b8 k 16)), (4, fun w' => w'.rangeAt b2 0 (b8 f 16))] w6.drew :=
    Facts.cons_hold (blk_whole HR.out.2.2.1) (Facts.cons_hold (blk_whole HR.out.1) (Facts.cons_hold (blk_whole HR.out.2.1) (Facts.nil_hold _)))
  refine wpD_region hold (by kernel_rfl) 9 rfl ?_
  (refine wpD_plain 0 (v := ?_) rfl (by kernel_rfl) (by kernel_rfl) (by kernel_rfl) (fun _ _ _ h => h) (by rfl) ?_ (by assumption) ?_; rotate_left; (intro _w; go_simp; try with_reducible rfl); simp only [Act.put, List.setIfInBounds_toArray, List.set_cons_zero, List.set_cons_succ])
  (refine wpD_plain 1 (v := ?_) rfl (by kernel_rfl) (by kernel_rfl) (by kernel_rfl) (fun _ _ _ h => h) (by rfl) ?_ (by assumption) ?_; rotate_left; (intro _w; go_simp; try with_reducible rfl); simp only [Act.put, List.setIfInBounds_toArray, List.set_cons_zero, List.set_cons_succ])
  (refine wpD_take 2 _ rfl (by kernel_rfl) (by kernel_rfl) (by kernel_rfl) (fun _ _ _ h => h) List.mem_cons_self (by rfl) (exec_load _ _ rfl b3 0 rfl _ _ rfl rfl (by simpa using info16)) (by assumption) ?_; simp only [Act.put, List.setIfInBounds_toArray, List.set_cons_zero, List.set_cons_succ])
  (refine wpD_take 3 _ rfl (by kernel_rfl) (by kernel_rfl) (by kernel_rfl) (fun _ _ _ h => h) (List.mem_cons_of_mem _ List.mem_cons_self) (by rfl) (exec_load _ _ rfl b1 0 rfl _ _ rfl rfl (by simpa using info16)) (by assumption) ?_; simp only [Act.put, List.setIfInBounds_toArray, List.set_cons_zero, List.set_cons_succ])
  (refine wpD_take 4 _ rfl (by kernel_rfl) (by kernel_rfl) (by kernel_rfl) (fun _ _ _ h => h) (List.mem_cons_of_mem _ (List.mem_cons_of_mem _ List.mem_cons_self)) (by rfl) (exec_load _ _ rfl b2 0 rfl _ _ rfl rfl (by simpa using info16)) (by assumption) ?_; simp only [Act.put, List.setIfInBounds_toArray, List.set_cons_zero, List.set_cons_succ])
  refine wpD_only 5 [(2, fun w' => w'.rangeAt b3 0 (b8 (enc k f) 16))] rfl (by kernel_rfl) (by kernel_rfl) (by rfl) (fun K5 hK5 => ?_)
  refine wp_call _ [_, _] _ rfl _ [] rfl (fun _ _ => by kernel_rfl) [bk k 16, bk f 16] rfl ?_
  refine (renc_any k f _ HK.out HF.out).mono ?_
  rintro e w7 ⟨rfl, hf7⟩
  have hold7 : Facts.hold [(2, fun w' => w'.rangeAt b3 0 (b8 (enc k f) 16))] w7 := Facts.cons_hold (hf7.range (w := w6.drew) (blk_whole HR.out.2.2.1) id) (Facts.nil_hold _)
  refine ⟨_, rfl, hK5 _ _ hold7 ?_⟩
  clear hK5 K5 hold
  simp only [Act.put, List.setIfInBounds_toArray, List.set_cons_zero, List.set_cons_succ]
  refine wpD_plain 6 (v := .bool true) rfl (by kernel_rfl) (by kernel_rfl) (by kernel_rfl) (fun _ _ _ h => h) (by rfl) (exec_eq16 _ _ _ rfl (enc k f) (enc k f) true (eqB_self _ _) rfl rfl) hold7 ?_
  simp only [Act.put, List.setIfInBounds_toArray, List.set_cons_zero, List.set_cons_succ]
  (refine wpD_plain 7 (v := ?_) rfl (by kernel_rfl) (by kernel_rfl) (by kernel_rfl) (fun _ _ _ h => h) (by rfl) ?_ (by assumption) ?_; rotate_left; (intro _w; go_simp; try with_reducible rfl); simp only [Act.put, List.setIfInBounds_toArray, List.set_cons_zero, List.set_cons_succ])
  (refine wpD_plain 8 (v := ?_) rfl (by kernel_rfl) (by kernel_rfl) (by kernel_rfl) (fun _ _ _ h => h) (by rfl) ?_ (by assumption) ?_; rotate_left; (intro _w; go_simp; try with_reducible rfl); simp only [Act.put, List.setIfInBounds_toArray, List.set_cons_zero, List.set_cons_succ])
  refine wpD_done (by kernel_rfl) ?_ _
  go_wp2_with fail
  go_ret
  exact ⟨rfl, HR.out.2.2.2.drew.trans' hf7⟩
end Go.Proofs.Ytgbcddhgeepjgaa.AE
