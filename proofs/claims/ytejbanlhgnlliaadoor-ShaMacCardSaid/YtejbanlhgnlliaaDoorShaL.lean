/-
  The laws ShaSum, ShaMac.
-/
import Derived.Test.YtejbanlhgnlliaaDoorShaEq
namespace Go.Proofs.YtejbanlhgnlliaaDoor.SH
set_option maxRecDepth 100000
open Go.RowKit K AR

theorem shaSum_walk (W : World) (x : List UInt8) (v : Value) {E : Nat → Prop} (hg : Gl W) (hx : BytesIn W E v x) (hl : x.length ≤ 140737488351232) : Calls Tryd.prog 3 #[v] W fun e w' => e = .returned (.bool true) ∧ Fr No W w' := by
  have HG := hid hg; have HX := hid hx; have HL := hid (show x.length ≤ 140737488355200 by omega)
  obtain ⟨a, n, c, rfl, -, -, -⟩ := hx
  clear hg hl
  go_enter Tryd.func3, Tryd.ntmps3
  go_wp2_with fail
  refine (awake_any _ HG.out).mono ?_
  rintro e w1 ⟨rfl, hf1⟩
  have HF1 := hid hf1
  clear hf1
  go_wp2_with fail
  refine (psum_any x _ _ (HX.out.no HF1.out) (HG.out.no HF1.out) HL.out).mono ?_
  rintro e w2 ⟨rfl, hf2⟩
  have HF2 := hid (HF1.out.trans' hf2)
  clear hf2 HF1
  go_wp2_with (first
    | ((with_reducible show wpList _ _ _ ({ dst := _, op := .alloc 24, type := _, pos := _, after := _, guard := _ } :: _) _ _); refine wpL_alloc rfl _ rfl _ zero32b (bw .u8 (fun _ => 0) 32) rfl ?_; intro w3 HB3 HF3 HS3)
    | ((with_reducible show wpList _ _ _ ({ dst := _, op := .store 24 _ _, type := _, pos := _, after := _, guard := _ } :: _) _ _); refine wpL_whole rfl _ _ _ rfl w2.heap.size (dig x) 32 rfl rfl _ _ HB3.out info32b ?_; intro w4 HB4 HF4 HS4)
    | fail)
  obtain ⟨b4, hb4⟩ : ∃ b, w2.heap.size = b := ⟨_, rfl⟩
  have hf := (HF2.out.trans' HF3.out).trans HF4.out fun i e => .inr (by have := HF2.out.size; have : i = w2.heap.size := e; omega)
  have hB := HB4.out
  rw [hb4] at hB ⊢
  have HR := hid (show Blk w4 b4 24 (bw .u8 (dig x) 32) ∧ Fr No W w4 from ⟨hB, hf⟩)
  clear HF2 HB3 HF3 HS3 HB4 HF4 HS4 hb4 hf hB
  have hold : Facts.hold [(2, fun w' => w'.rangeAt b4 0 (bw .u8 (dig x) 32))] w4.drew := Facts.cons_hold (blk_whole HR.out.1) (Facts.nil_hold _)
  refine wpD_region hold (by kernel_rfl) 8 rfl ?_
  (refine wpD_plain 0 (v := ?_) rfl (by kernel_rfl) (by kernel_rfl) (by kernel_rfl) (fun _ _ _ h => h) (by rfl) ?_ (by assumption) ?_; rotate_left; (intro _w; go_simp; try with_reducible rfl); simp only [Act.put, List.setIfInBounds_toArray, List.set_cons_zero, List.set_cons_succ])
  (refine wpD_plain 1 (v := ?_) rfl (by kernel_rfl) (by kernel_rfl) (by kernel_rfl) (fun _ _ _ h => h) (by rfl) ?_ (by assumption) ?_; rotate_left; (intro _w; go_simp; try with_reducible rfl); simp only [Act.put, List.setIfInBounds_toArray, List.set_cons_zero, List.set_cons_succ])
  (refine wpD_take 2 _ rfl (by kernel_rfl) (by kernel_rfl) (by kernel_rfl) (fun _ _ _ h => h) List.mem_cons_self (by rfl) (exec_load _ _ rfl b4 0 rfl _ _ rfl rfl (by simpa using info32b)) (by assumption) ?_; simp only [Act.put, List.setIfInBounds_toArray, List.set_cons_zero, List.set_cons_succ])
  (refine wpD_plain 3 (v := ?_) rfl (by kernel_rfl) (by kernel_rfl) (by kernel_rfl) (fun _ _ _ h => h) (by rfl) ?_ (by assumption) ?_; rotate_left; (intro _w; go_simp; try with_reducible rfl); simp only [Act.put, List.setIfInBounds_toArray, List.set_cons_zero, List.set_cons_succ])
  refine wpD_only 4 [(2, fun w' => w'.rangeAt b4 0 (bw .u8 (dig x) 32))] rfl (by kernel_rfl) (by kernel_rfl) (by rfl) (fun K4 hK4 => ?_)
  refine wp_call _ [_] _ rfl _ [] rfl (fun _ _ => by kernel_rfl) [.slice a n c] rfl ?_
  refine (rsum_any x _ _ (HX.out.no HR.out.2.drew) HL.out).mono ?_
  rintro e w5 ⟨rfl, hf5⟩
  have hold5 : Facts.hold [(2, fun w' => w'.rangeAt b4 0 (bw .u8 (dig x) 32))] w5 := Facts.cons_hold (hf5.range (w := w4.drew) (blk_whole HR.out.1) id) (Facts.nil_hold _)
  refine ⟨_, rfl, hK4 _ _ hold5 ?_⟩
  clear hK4 K4 hold
  simp only [Act.put, List.setIfInBounds_toArray, List.set_cons_zero, List.set_cons_succ]
  refine wpD_plain 5 (v := .bool true) rfl (by kernel_rfl) (by kernel_rfl) (by kernel_rfl) (fun _ _ _ h => h) (by rfl) (exec_eq32 _ _ _ rfl (dig x) rfl rfl) hold5 ?_
  simp only [Act.put, List.setIfInBounds_toArray, List.set_cons_zero, List.set_cons_succ]
  (refine wpD_plain 6 (v := ?_) rfl (by kernel_rfl) (by kernel_rfl) (by kernel_rfl) (fun _ _ _ h => h) (by rfl) ?_ (by assumption) ?_; rotate_left; (intro _w; go_simp; try with_reducible rfl); simp only [Act.put, List.setIfInBounds_toArray, List.set_cons_zero, List.set_cons_succ])
  (refine wpD_plain 7 (v := ?_) rfl (by kernel_rfl) (by kernel_rfl) (by kernel_rfl) (fun _ _ _ h => h) (by rfl) ?_ (by assumption) ?_; rotate_left; (intro _w; go_simp; try with_reducible rfl); simp only [Act.put, List.setIfInBounds_toArray, List.set_cons_zero, List.set_cons_succ])
  refine wpD_done (by kernel_rfl) ?_ _
  go_wp2_with fail
  go_ret
  exact ⟨rfl, HR.out.2.drew.trans' hf5⟩
theorem shaMac_walk (W : World) (k x : List UInt8) (vk v : Value) {E E' : Nat → Prop} (hg : Gl W) (hk : BytesIn W E' vk k) (hx : BytesIn W E v x) (hkl : k.length ≤ 140737488351232) (hl : x.length ≤ 140737488351232) : Calls Tryd.prog 4 #[vk, v] W fun e w' => e = .returned (.bool true) ∧ Fr No W w' := by
  have HG := hid hg; have HX := hid hx; have HK := hid hk; have HL := hid (show k.length ≤ 140737488355200 ∧ x.length ≤ 140737488355072 by omega)
  obtain ⟨a, n, c, rfl, -, -, -⟩ := hx
  obtain ⟨ak, nk, ck, rfl, -, -, -⟩ := hk
  clear hg hl hkl
  go_enter Tryd.func4, Tryd.ntmps4
  go_wp2_with fail
  refine (awake_any _ HG.out).mono ?_
  rintro e w1 ⟨rfl, hf1⟩
  have HF1 := hid hf1
  clear hf1
  go_wp2_with fail
  refine (pmac_any k x _ _ _ (HK.out.no HF1.out) (HX.out.no HF1.out) (HG.out.no HF1.out) HL.out.1 (by have := HL.out.2; omega)).mono ?_
  rintro e w2 ⟨rfl, hf2⟩
  have HF2 := hid (HF1.out.trans' hf2)
  clear hf2 HF1
  go_wp2_with (first
    | ((with_reducible show wpList _ _ _ ({ dst := _, op := .alloc 24, type := _, pos := _, after := _, guard := _ } :: _) _ _); refine wpL_alloc rfl _ rfl _ zero32b (bw .u8 (fun _ => 0) 32) rfl ?_; intro w3 HB3 HF3 HS3)
    | ((with_reducible show wpList _ _ _ ({ dst := _, op := .store 24 _ _, type := _, pos := _, after := _, guard := _ } :: _) _ _); refine wpL_whole rfl _ _ _ rfl w2.heap.size (mac k x) 32 rfl rfl _ _ HB3.out info32b ?_; intro w4 HB4 HF4 HS4)
    | fail)
  obtain ⟨b4, hb4⟩ : ∃ b, w2.heap.size = b := ⟨_, rfl⟩
  have hf := (HF2.out.trans' HF3.out).trans HF4.out fun i e => .inr (by have := HF2.out.size; have : i = w2.heap.size := e; omega)
  have hB := HB4.out
  rw [hb4] at hB ⊢
  have HR := hid (show Blk w4 b4 24 (bw .u8 (mac k x) 32) ∧ Fr No W w4 from ⟨hB, hf⟩)
  clear HF2 HB3 HF3 HS3 HB4 HF4 HS4 hb4 hf hB
  have hold : Facts.hold [(2, fun w' => w'.rangeAt b4 0 (bw .u8 (mac k x) 32))] w4.drew := Facts.cons_hold (blk_whole HR.out.1) (Facts.nil_hold _)
  refine wpD_region hold (by kernel_rfl) 9 rfl ?_
  (refine wpD_plain 0 (v := ?_) rfl (by kernel_rfl) (by kernel_rfl) (by kernel_rfl) (fun _ _ _ h => h) (by rfl) ?_ (by assumption) ?_; rotate_left; (intro _w; go_simp; try with_reducible rfl); simp only [Act.put, List.setIfInBounds_toArray, List.set_cons_zero, List.set_cons_succ])
  (refine wpD_plain 1 (v := ?_) rfl (by kernel_rfl) (by kernel_rfl) (by kernel_rfl) (fun _ _ _ h => h) (by rfl) ?_ (by assumption) ?_; rotate_left; (intro _w; go_simp; try with_reducible rfl); simp only [Act.put, List.setIfInBounds_toArray, List.set_cons_zero, List.set_cons_succ])
  (refine wpD_take 2 _ rfl (by kernel_rfl) (by kernel_rfl) (by kernel_rfl) (fun _ _ _ h => h) List.mem_cons_self (by rfl) (exec_load _ _ rfl b4 0 rfl _ _ rfl rfl (by simpa using info32b)) (by assumption) ?_; simp only [Act.put, List.setIfInBounds_toArray, List.set_cons_zero, List.set_cons_succ])
  (refine wpD_plain 3 (v := ?_) rfl (by kernel_rfl) (by kernel_rfl) (by kernel_rfl) (fun _ _ _ h => h) (by rfl) ?_ (by assumption) ?_; rotate_left; (intro _w; go_simp; try with_reducible rfl); simp only [Act.put, List.setIfInBounds_toArray, List.set_cons_zero, List.set_cons_succ])
  (refine wpD_plain 4 (v := ?_) rfl (by kernel_rfl) (by kernel_rfl) (by kernel_rfl) (fun _ _ _ h => h) (by rfl) ?_ (by assumption) ?_; rotate_left; (intro _w; go_simp; try with_reducible rfl); simp only [Act.put, List.setIfInBounds_toArray, List.set_cons_zero, List.set_cons_succ])
  refine wpD_only 5 [(2, fun w' => w'.rangeAt b4 0 (bw .u8 (mac k x) 32))] rfl (by kernel_rfl) (by kernel_rfl) (by rfl) (fun K4 hK4 => ?_)
  refine wp_call _ [_, _] _ rfl _ [] rfl (fun _ _ => by kernel_rfl) [.slice ak nk ck, .slice a n c] rfl ?_
  refine (rmac_any k x _ _ _ (HK.out.no HR.out.2.drew) (HX.out.no HR.out.2.drew) HL.out.1 HL.out.2).mono ?_
  rintro e w5 ⟨rfl, hf5⟩
  have hold5 : Facts.hold [(2, fun w' => w'.rangeAt b4 0 (bw .u8 (mac k x) 32))] w5 := Facts.cons_hold (hf5.range (w := w4.drew) (blk_whole HR.out.1) id) (Facts.nil_hold _)
  refine ⟨_, rfl, hK4 _ _ hold5 ?_⟩
  clear hK4 K4 hold
  simp only [Act.put, List.setIfInBounds_toArray, List.set_cons_zero, List.set_cons_succ]
  refine wpD_plain 6 (v := .bool true) rfl (by kernel_rfl) (by kernel_rfl) (by kernel_rfl) (fun _ _ _ h => h) (by rfl) (exec_eq32 _ _ _ rfl (mac k x) rfl rfl) hold5 ?_
  simp only [Act.put, List.setIfInBounds_toArray, List.set_cons_zero, List.set_cons_succ]
  (refine wpD_plain 7 (v := ?_) rfl (by kernel_rfl) (by kernel_rfl) (by kernel_rfl) (fun _ _ _ h => h) (by rfl) ?_ (by assumption) ?_; rotate_left; (intro _w; go_simp; try with_reducible rfl); simp only [Act.put, List.setIfInBounds_toArray, List.set_cons_zero, List.set_cons_succ])
  (refine wpD_plain 8 (v := ?_) rfl (by kernel_rfl) (by kernel_rfl) (by kernel_rfl) (fun _ _ _ h => h) (by rfl) ?_ (by assumption) ?_; rotate_left; (intro _w; go_simp; try with_reducible rfl); simp only [Act.put, List.setIfInBounds_toArray, List.set_cons_zero, List.set_cons_succ])
  refine wpD_done (by kernel_rfl) ?_ _
  go_wp2_with fail
  go_ret
  exact ⟨rfl, HR.out.2.drew.trans' hf5⟩
end Go.Proofs.YtejbanlhgnlliaaDoor.SH
