/-
  Package aes: Encrypt, Decrypt.
-/
import Derived.Test.YtgbcddhgeepjgaaAesE
namespace Go.Proofs.Ytgbcddhgeepjgaa.AE
set_option maxRecDepth 100000
open Go.RowKit K

theorem build4 (a b c d : Nat) (w : World) : (Instr.build 38 #[(0, .int .u8 (a : Int)), (1, .int .u8 (b : Int)), (2, .int .u8 (c : Int)), (3, .int .u8 (d : Int))]).run Try.prog w = .ok (bk (wt a b c d) 4) w := by kernel_rfl
theorem wt_f : By (wt 2 3 1 1) := wt_by (by decide) (by decide) (by decide) (by decide)
theorem wt_b : By (wt 14 11 13 9) := wt_by (by decide) (by decide) (by decide) (by decide)
theorem trn_by {f : Nat → Nat} (t : Nat) (h : By f) : By (trn t f) := h.trn t
theorem mid_by {k f : Nat → Nat} (hk : By k) (hf : By f) (n : Nat) : By (trn 1 (rep box (st k f n))) := ((st_by hk hf n).rep fun _ h => box_lt h).trn 1

set_option maxHeartbeats 1000000 in
theorem enc_any (k f : Nat → Nat) (w : World) (hk : By k) (hf : By f) : Calls Try.prog 18 #[bk k 16, bk f 16] w fun e w' =>
    e = .returned (bk (enc k f) 16) ∧ Fr No w w' := by
  have HK := hid hk; have HF := hid hf; clear hk hf
  go_enter Try.func18, Try.ntmps18
  go_wp2_with (first
    | ((with_reducible show wpList _ _ _ ({ dst := _, op := .box 27 _, type := _, pos := _, after := _, guard := _ } :: _) _ _); have := HB1; refine wpL_box rfl _ _ rfl (bk f 16) rfl (b8 f 16) rfl ?_; intro w2 HB2 HF2 HS2)
    | ((with_reducible show wpList _ _ _ ({ dst := _, op := .box 27 _, type := _, pos := _, after := _, guard := _ } :: _) _ _); refine wpL_box rfl _ _ rfl (bk k 16) rfl (b8 k 16) rfl ?_; intro w1 HB1 HF1 HS1)
    | ((with_reducible show wpList _ _ _ ({ dst := _, op := .alloc 27, type := _, pos := _, after := _, guard := _ } :: _) _ _); refine wpL_alloc rfl _ rfl _ zero16 (b8 (fun _ => 0) 16) rfl ?_; intro w3 HB3 HF3 HS3)
    | ((with_reducible show wpList _ _ _ ({ dst := _, op := .load 27 _, type := _, pos := _, after := _, guard := _ } :: _) _ _); refine wpL_all rfl _ _ rfl w.heap.size rfl _ k 16 _ ((HB1.out.fr HF2.out id).fr HF3.out id) rfl rfl info16 ?_))
  refine (exp_any k _ HK.out).mono ?_
  rintro e w4 ⟨rfl, hf4⟩
  have hB2 := (HB2.out.fr HF3.out id).fr hf4 id
  have hB3 := HB3.out.fr hf4 id
  have hf3 := ((HF1.out.trans' HF2.out).trans' HF3.out).trans' hf4
  obtain ⟨b2, hb2⟩ : ∃ b, w1.heap.size = b := ⟨_, rfl⟩
  obtain ⟨b3, hb3⟩ : ∃ b, w2.heap.size = b := ⟨_, rfl⟩
  have hs1 := HS1.out; have hs2 := HS2.out; have hs3 := HS3.out; have hs4 := hf4.size
  obtain ⟨b1, hb1⟩ : ∃ b, w.heap.size = b := ⟨_, rfl⟩
  obtain ⟨b4, hb4⟩ : ∃ b, w4.heap.size = b := ⟨_, rfl⟩
  rw [hb2] at hs1; rw [hb2, hb3] at hs2; rw [hb3] at hs3; rw [hb4] at hs4
  rw [hb2] at hB2; rw [hb3] at hB3
  rw [hb2, hb3, hb1]
  have HW := hid (show w.heap.size ≤ b2 ∧ w.heap.size ≤ b3 ∧ w.heap.size ≤ b4 by omega); have HN := hid (show b2 ≠ b3 ∧ b2 ≠ b4 ∧ b3 ≠ b4 by omega)
  have HR := hid (show Blk w4 b2 27 (b8 f 16) ∧ Blk w4 b3 27 (b8 (fun _ => 0) 16) ∧ Fr No w w4 from ⟨hB2, hB3, hf3⟩)
  have H4 := hid hb4
  clear HB1 HB2 HB3 HF1 HF2 HF3 HS1 HS2 HS3 this hB2 hB3 hf3 hf4 hb1 hb2 hb3 hb4 hs1 hs2 hs3 hs4
  go_wp2_with (first
    | ((with_reducible show wpList _ _ _ ({ dst := _, op := .alloc 28, type := _, pos := _, after := _, guard := _ } :: _) _ _); refine wpL_alloc rfl _ rfl _ zero176 (b8 (fun _ => 0) 176) rfl ?_; intro w5 HB5 HF5 HS5; rw [H4.out] at HB5 ⊢)
    | ((with_reducible show wpList _ _ _ ({ dst := _, op := .store 28 _ _, type := _, pos := _, after := _, guard := _ } :: _) _ _); refine wpL_whole rfl _ _ _ rfl b4 (fl (keys k)) 176 rfl rfl _ _ HB5.out info176 ?_; intro w6 HB6 HF6 HS6)
    | ((with_reducible show wpList _ _ _ ({ dst := _, op := .load 27 _, type := _, pos := _, after := _, guard := _ } :: _) _ _); have := HB7; refine wpL_partG rfl _ _ rfl b4 0 16 rfl _ (fl (keys k)) (keys k 0) 176 _ HB6.out (by decide) (fl_at (keys k) 0) rfl rfl info16 ?_)
    | ((with_reducible show wpList _ _ _ ({ dst := _, op := .load 27 _, type := _, pos := _, after := _, guard := _ } :: _) _ _); refine wpL_all rfl _ _ rfl b2 rfl _ f 16 _ ((HR.out.1.fr HF5.out id).fr HF6.out HN.out.2.1) rfl rfl info16 ?_; have HB7 := hid trivial))
  refine (comb_any f (keys k 0) _ HF.out (keys_by HK.out 0)).mono ?_
  rintro e w7 ⟨rfl, hf7⟩
  have HR7 := hid (show Blk w7 b2 27 (b8 f 16) ∧ Blk w7 b3 27 (b8 (fun _ => 0) 16) ∧ Blk w7 b4 28 (b8 (fl (keys k)) 176) ∧ Fr No w w7 from
    ⟨((HR.out.1.fr HF5.out id).fr HF6.out HN.out.2.1).fr hf7 id, ((HR.out.2.1.fr HF5.out id).fr HF6.out HN.out.2.2).fr hf7 id, HB6.out.fr hf7 id,
      ((HR.out.2.2.trans' HF5.out).trans HF6.out fun i e => .inr (by have := HW.out; have : i = b4 := e; omega)).trans' hf7⟩)
  clear HR HB5 HF5 HS5 HB6 HF6 HS6 hf7 HB7 this H4
  go_wp2_with (first
    | ((with_reducible show wpList _ _ _ ({ dst := _, op := .store 27 _ _, type := _, pos := _, after := _, guard := _ } :: _) _ _); refine wpL_whole rfl _ _ _ rfl b2 (comb f (keys k 0)) 16 rfl rfl _ _ HR7.out.1 info16 ?_; intro w8 HB8 HF8 HS8)
    | fail)
  have HR := hid (show Blk w8 b2 27 (b8 (st k f 0) 16) ∧ Blk w8 b3 27 (b8 (fun _ => 0) 16) ∧ Blk w8 b4 28 (b8 (fl (keys k)) 176) ∧ Fr No w w8 from
    ⟨HB8.out, HR7.out.2.1.fr HF8.out (fun e => HN.out.1 e.symm), HR7.out.2.2.1.fr HF8.out (fun e => HN.out.2.1 e.symm), HR7.out.2.2.2.trans HF8.out fun i e => .inr (by have := HW.out; have : i = b2 := e; omega)⟩)
  clear HR7 HB8 HF8 HS8
  go_loopw [6] (fun i wr => ∃ n : Nat, n ≤ 10 ∧ i = .int .i64 (n + 1 : Nat) ∧ Hid (Blk wr b2 27 (b8 (st k f n) 16) ∧ Blk wr b3 27 (b8 (fun _ => 0) 16) ∧ Blk wr b4 28 (b8 (fl (keys k)) 176) ∧ Fr No w wr)) (fun i _ => 11 - (intOf i).toNat)
  case atStart => exact ⟨0, by omega, rfl, HR⟩
  case round =>
    clear HR
    obtain ⟨n, hn, rfl, HR⟩ := hrel
    by_cases hlt : n < 10
    · obtain ⟨r, hr⟩ : ∃ r, n + 1 = r := ⟨_, rfl⟩
      have hst : st k f r = comb (mixF r (trn 1 (rep box (st k f n)))) (keys k r) := by rw [← hr]; rfl
      have HST := hid hst
      have HRR := hid hr
      have hr1 : r ≤ 10 := by omega
      have hr0 : 1 ≤ r := by omega
      have hri : (r : Int) < 11 := by omega
      rw [hr]
      clear hst
      go_wp2_with (first
        | ((with_reducible show wpList _ _ _ ({ dst := _, op := .load 27 _, type := _, pos := _, after := _, guard := _ } :: _) _ _); refine wpL_all rfl _ _ rfl b2 rfl _ (st k f n) 16 _ HR.out.1 rfl rfl info16 ?_)
        | fail)
      refine (rep_any _ box (st k f n) _ box_fn (st_by HK.out HF.out n)).mono ?_
      rintro e w1 ⟨rfl, hf1⟩
      have HR1 := hid (show Blk w1 b2 27 (b8 (st k f n) 16) ∧ Blk w1 b3 27 (b8 (fun _ => 0) 16) ∧ Blk w1 b4 28 (b8 (fl (keys k)) 176) ∧ Fr No w w1 from
        ⟨HR.out.1.fr hf1 id, HR.out.2.1.fr hf1 id, HR.out.2.2.1.fr hf1 id, HR.out.2.2.2.trans' hf1⟩)
      clear HR hf1
      go_wp2_with fail
      refine (turn_any 1 (rep box (st k f n)) _ (.inl rfl)).mono ?_
      rintro e w2 ⟨rfl, hf2⟩
      have HM := hid (mid_by HK.out HF.out n)
      obtain ⟨g, hg⟩ : ∃ g, trn 1 (rep box (st k f n)) = g := ⟨_, rfl⟩
      rw [hg] at HM HST ⊢
      clear hg
      have HR2 := hid (show Blk w2 b2 27 (b8 (st k f n) 16) ∧ Blk w2 b3 27 (b8 (fun _ => 0) 16) ∧ Blk w2 b4 28 (b8 (fl (keys k)) 176) ∧ Fr No w w2 from
        ⟨HR1.out.1.fr hf2 id, HR1.out.2.1.fr hf2 id, HR1.out.2.2.1.fr hf2 id, HR1.out.2.2.2.trans' hf2⟩)
      clear HR1 hf2
      by_cases hlast : r < 10
      · have HE := hid (show st k f r = comb (mx (wt 2 3 1 1) g) (keys k r) by rw [HST.out, mixF, if_pos hlast])
        clear HST
        go_wp2_with (first
          | ((with_reducible show wpList _ _ _ ({ dst := _, op := .load 27 _, type := _, pos := _, after := _, guard := _ } :: _) _ _); have := HB3; refine wpL_all rfl _ _ rfl b2 rfl _ g 16 _ HB3.out rfl rfl info16 ?_)
          | ((with_reducible show wpList _ _ _ ({ dst := _, op := .build 38 _, type := _, pos := _, after := _, guard := _ } :: _) _ _); refine wpL_build rfl _ [(0, .const (.int .u8 2)), (1, .const (.int .u8 3)), (2, .const (.int .u8 1)), (3, .const (.int .u8 1))] rfl (bk (wt 2 3 1 1) 4) (build4 2 3 1 1 _) ?_)
          | ((with_reducible show wpList _ _ _ ({ dst := _, op := .store 27 _ _, type := _, pos := _, after := _, guard := _ } :: _) _ _); refine wpL_whole rfl _ _ _ rfl b2 g 16 rfl rfl _ _ HR2.out.1 info16 ?_; intro w3 HB3 HF3 HS3)
          | fail)
        refine (mix_any (wt 2 3 1 1) g _ wt_f HM.out).mono ?_
        rintro e w4 ⟨rfl, hf4⟩
        have HR3 := hid (show Blk w4 b2 27 (b8 g 16) ∧ Blk w4 b3 27 (b8 (fun _ => 0) 16) ∧ Blk w4 b4 28 (b8 (fl (keys k)) 176) ∧ Fr No w w4 from
          ⟨HB3.out.fr hf4 id, (HR2.out.2.1.fr HF3.out (fun e => HN.out.1 e.symm)).fr hf4 id, (HR2.out.2.2.1.fr HF3.out (fun e => HN.out.2.1 e.symm)).fr hf4 id, (HR2.out.2.2.2.trans HF3.out fun i e => .inr (by have := HW.out; have : i = b2 := e; omega)).trans' hf4⟩)
        clear HR2 HB3 HF3 HS3 hf4
        have HR2 := HR3
        clear HR3
        have HG := hid (By.mx wt_f : By (mx (wt 2 3 1 1) g))
        go_wp2_with (first
          | ((with_reducible show wpList _ _ _ ({ dst := _, op := .store 27 _ _, type := _, pos := _, after := _, guard := _ } :: _) _ _); refine wpL_whole rfl _ _ _ rfl b2 (mx (wt 2 3 1 1) g) 16 rfl rfl _ _ HR2.out.1 info16 ?_; intro w3 HB3 HF3 HS3)
          | fail)
        have HX := hid (show Blk w3 b2 27 (b8 (mx (wt 2 3 1 1) g) 16) ∧ Blk w3 b3 27 (b8 (fun _ => 0) 16) ∧ Blk w3 b4 28 (b8 (fl (keys k)) 176) ∧ Fr No w w3 from ⟨HB3.out, HR2.out.2.1.fr HF3.out (fun e => HN.out.1 e.symm), HR2.out.2.2.1.fr HF3.out (fun e => HN.out.2.1 e.symm), HR2.out.2.2.2.trans HF3.out fun i e => .inr (by have := HW.out; have : i = b2 := e; omega)⟩)
        clear HR2 HB3 HF3 HS3
        have hr16 : b8 (fun i => fl (keys k) (r * 16 + i)) 16 = b8 (keys k r) 16 := b8_congr (fl_at (keys k) r)
        have q1 := HX.out.1.range 0 (b8 (mx (wt 2 3 1 1) g) 16) (by rw [b8_length, List.drop_zero, List.take_of_length_le (by simp)])
        have q2 := blk_row HX.out.2.2.1 (r * 16) 16 (by omega)
        rw [hr16] at q2
        have hold : Facts.hold [(0, fun w' => w'.rangeAt b2 0 (b8 (mx (wt 2 3 1 1) g) 16)), (3, fun w' => w'.rangeAt b4 (r * 16) (b8 (keys k r) 16))] w3.drew := Facts.cons_hold q1 (Facts.cons_hold q2 (Facts.nil_hold _))
        clear hr16 q1 q2
        refine wpD_region hold (by kernel_rfl) 6 rfl ?_
        (refine wpD_take 0 _ rfl (by kernel_rfl) (by kernel_rfl) (by kernel_rfl) (fun _ _ _ h => h) List.mem_cons_self (by rfl) (exec_load _ _ rfl b2 0 rfl _ _ rfl rfl (by simpa using info16)) (by assumption) ?_; simp only [Act.put, List.setIfInBounds_toArray, List.set_cons_zero, List.set_cons_succ])
        (refine wpD_plain 1 (v := ?_) rfl (by kernel_rfl) (by kernel_rfl) (by kernel_rfl) (fun _ _ _ h => h) (by rfl) ?_ (by assumption) ?_; rotate_left; (intro _w; go_simp; try with_reducible rfl); simp only [Act.put, List.setIfInBounds_toArray, List.set_cons_zero, List.set_cons_succ])
        (refine wpD_plain 2 (v := ?_) rfl (by kernel_rfl) (by kernel_rfl) (by kernel_rfl) (fun _ _ _ h => h) (by rfl) ?_ (by assumption) ?_; rotate_left; (intro _w; go_simp; try with_reducible rfl); simp only [Act.put, List.setIfInBounds_toArray, List.set_cons_zero, List.set_cons_succ])
        (refine wpD_take 3 _ rfl (by kernel_rfl) (by kernel_rfl) (by kernel_rfl) (fun _ _ _ h => h) (List.mem_cons_of_mem _ List.mem_cons_self) (by rfl) (exec_load _ _ rfl b4 (r * 16) rfl _ _ rfl rfl (by simpa using info16)) (by assumption) ?_; simp only [Act.put, List.setIfInBounds_toArray, List.set_cons_zero, List.set_cons_succ])
        refine wpD_only 4 [] rfl (by kernel_rfl) (by kernel_rfl) (by rfl) (fun K4 hK4 => ?_)
        refine wp_call _ [_, _] _ rfl _ [] rfl (fun _ _ => by kernel_rfl) [bk (mx (wt 2 3 1 1) g) 16, bk (keys k r) 16] rfl ?_
        refine (comb_any (mx (wt 2 3 1 1) g) (keys k r) _ HG.out (keys_by HK.out r)).mono ?_
        rintro e w5 ⟨rfl, hf5⟩
        refine ⟨_, rfl, hK4 _ _ (Facts.nil_hold _) ?_⟩
        clear hK4 K4 hold
        simp only [Act.put, List.setIfInBounds_toArray, List.set_cons_zero, List.set_cons_succ]
        refine wpD_only 5 [] rfl (by kernel_rfl) (by kernel_rfl) (by rfl) (fun K5 hK5 => ?_)
        refine wp_row _ _ _ rfl b2 0 (comb (mx (wt 2 3 1 1) g) (keys k r)) 16 rfl rfl _ _ 16 (HX.out.1.drew.fr hf5 id) (by decide) info16 ?_
        intro w6 HB6 HF6 HS6
        have hb6 := HB6.out
        rw [over_all, ← HE.out] at hb6
        refine hK5 _ _ (Facts.nil_hold _) ?_
        clear hK5 K5
        simp only [Act.put, List.setIfInBounds_toArray, List.set_cons_zero, List.set_cons_succ]
        refine wpD_done (by kernel_rfl) ?_ _
        have HR' := hid (show Blk w6 b2 27 (b8 (st k f r) 16) ∧ Blk w6 b3 27 (b8 (fun _ => 0) 16) ∧ Blk w6 b4 28 (b8 (fl (keys k)) 176) ∧ Fr No w w6 from
          ⟨hb6, (HX.out.2.1.drew.fr hf5 id).fr HF6.out (fun e => HN.out.1 e.symm), (HX.out.2.2.1.drew.fr hf5 id).fr HF6.out (fun e => HN.out.2.1 e.symm), (HX.out.2.2.2.drew.trans' hf5).trans HF6.out fun i e => .inr (by have := HW.out; have : i = b2 := e; omega)⟩)
        clear HX HB6 HF6 HS6 hf5 hb6 HE HM HG
        go_wp2_with fail
        go_roundw
        case rel => exact ⟨r, by omega, by go_num, HR'⟩
        case measure => simp [intOf]; omega
      · have HE := hid (show st k f r = comb g (keys k r) by rw [HST.out, mixF, if_neg hlast])
        clear HST
        go_wp2_with (first
          | ((with_reducible show wpList _ _ _ ({ dst := _, op := .store 27 _ _, type := _, pos := _, after := _, guard := _ } :: _) _ _); refine wpL_whole rfl _ _ _ rfl b2 g 16 rfl rfl _ _ HR2.out.1 info16 ?_; intro w3 HB3 HF3 HS3)
          | fail)
        have HG := HM
        have HX := hid (show Blk w3 b2 27 (b8 (g) 16) ∧ Blk w3 b3 27 (b8 (fun _ => 0) 16) ∧ Blk w3 b4 28 (b8 (fl (keys k)) 176) ∧ Fr No w w3 from ⟨HB3.out, HR2.out.2.1.fr HF3.out (fun e => HN.out.1 e.symm), HR2.out.2.2.1.fr HF3.out (fun e => HN.out.2.1 e.symm), HR2.out.2.2.2.trans HF3.out fun i e => .inr (by have := HW.out; have : i = b2 := e; omega)⟩)
        clear HR2 HB3 HF3 HS3
        have hr16 : b8 (fun i => fl (keys k) (r * 16 + i)) 16 = b8 (keys k r) 16 := b8_congr (fl_at (keys k) r)
        have q1 := HX.out.1.range 0 (b8 (g) 16) (by rw [b8_length, List.drop_zero, List.take_of_length_le (by simp)])
        have q2 := blk_row HX.out.2.2.1 (r * 16) 16 (by omega)
        rw [hr16] at q2
        have hold : Facts.hold [(0, fun w' => w'.rangeAt b2 0 (b8 (g) 16)), (3, fun w' => w'.rangeAt b4 (r * 16) (b8 (keys k r) 16))] w3.drew := Facts.cons_hold q1 (Facts.cons_hold q2 (Facts.nil_hold _))
        clear hr16 q1 q2
        refine wpD_region hold (by kernel_rfl) 6 rfl ?_
        (refine wpD_take 0 _ rfl (by kernel_rfl) (by kernel_rfl) (by kernel_rfl) (fun _ _ _ h => h) List.mem_cons_self (by rfl) (exec_load _ _ rfl b2 0 rfl _ _ rfl rfl (by simpa using info16)) (by assumption) ?_; simp only [Act.put, List.setIfInBounds_toArray, List.set_cons_zero, List.set_cons_succ])
        (refine wpD_plain 1 (v := ?_) rfl (by kernel_rfl) (by kernel_rfl) (by kernel_rfl) (fun _ _ _ h => h) (by rfl) ?_ (by assumption) ?_; rotate_left; (intro _w; go_simp; try with_reducible rfl); simp only [Act.put, List.setIfInBounds_toArray, List.set_cons_zero, List.set_cons_succ])
        (refine wpD_plain 2 (v := ?_) rfl (by kernel_rfl) (by kernel_rfl) (by kernel_rfl) (fun _ _ _ h => h) (by rfl) ?_ (by assumption) ?_; rotate_left; (intro _w; go_simp; try with_reducible rfl); simp only [Act.put, List.setIfInBounds_toArray, List.set_cons_zero, List.set_cons_succ])
        (refine wpD_take 3 _ rfl (by kernel_rfl) (by kernel_rfl) (by kernel_rfl) (fun _ _ _ h => h) (List.mem_cons_of_mem _ List.mem_cons_self) (by rfl) (exec_load _ _ rfl b4 (r * 16) rfl _ _ rfl rfl (by simpa using info16)) (by assumption) ?_; simp only [Act.put, List.setIfInBounds_toArray, List.set_cons_zero, List.set_cons_succ])
        refine wpD_only 4 [] rfl (by kernel_rfl) (by kernel_rfl) (by rfl) (fun K4 hK4 => ?_)
        refine wp_call _ [_, _] _ rfl _ [] rfl (fun _ _ => by kernel_rfl) [bk (g) 16, bk (keys k r) 16] rfl ?_
        refine (comb_any (g) (keys k r) _ HG.out (keys_by HK.out r)).mono ?_
        rintro e w5 ⟨rfl, hf5⟩
        refine ⟨_, rfl, hK4 _ _ (Facts.nil_hold _) ?_⟩
        clear hK4 K4 hold
        simp only [Act.put, List.setIfInBounds_toArray, List.set_cons_zero, List.set_cons_succ]
        refine wpD_only 5 [] rfl (by kernel_rfl) (by kernel_rfl) (by rfl) (fun K5 hK5 => ?_)
        refine wp_row _ _ _ rfl b2 0 (comb (g) (keys k r)) 16 rfl rfl _ _ 16 (HX.out.1.drew.fr hf5 id) (by decide) info16 ?_
        intro w6 HB6 HF6 HS6
        have hb6 := HB6.out
        rw [over_all, ← HE.out] at hb6
        refine hK5 _ _ (Facts.nil_hold _) ?_
        clear hK5 K5
        simp only [Act.put, List.setIfInBounds_toArray, List.set_cons_zero, List.set_cons_succ]
        refine wpD_done (by kernel_rfl) ?_ _
        have HR' := hid (show Blk w6 b2 27 (b8 (st k f r) 16) ∧ Blk w6 b3 27 (b8 (fun _ => 0) 16) ∧ Blk w6 b4 28 (b8 (fl (keys k)) 176) ∧ Fr No w w6 from
          ⟨hb6, (HX.out.2.1.drew.fr hf5 id).fr HF6.out (fun e => HN.out.1 e.symm), (HX.out.2.2.1.drew.fr hf5 id).fr HF6.out (fun e => HN.out.2.1 e.symm), (HX.out.2.2.2.drew.trans' hf5).trans HF6.out fun i e => .inr (by have := HW.out; have : i = b2 := e; omega)⟩)
        clear HX HB6 HF6 HS6 hf5 hb6 HE HM HG
        go_wp2_with fail
        go_roundw
        case rel => exact ⟨r, by omega, by go_num, HR'⟩
        case measure => simp [intOf]; omega
    · obtain rfl : n = 10 := by omega
      go_wp2_with (first
        | ((with_reducible show wpList _ _ _ ({ dst := _, op := .load 27 _, type := _, pos := _, after := _, guard := _ } :: _) _ _); refine wpL_all rfl _ _ rfl b2 rfl _ (st k f 10) 16 _ HR.out.1 rfl rfl info16 ?_)
        | ((with_reducible show wpList _ _ _ ({ dst := _, op := .store 27 _ _, type := _, pos := _, after := _, guard := _ } :: _) _ _); refine wpL_whole rfl _ _ _ rfl b3 (st k f 10) 16 rfl rfl _ _ HR.out.2.1 info16 ?_; intro w5 HB5 HF5 HS5)
        | fail)
      refine ret_cell rfl _ rfl HB5.out rfl rfl (by simpa using info16) rfl ?_
      exact ⟨rfl, HR.out.2.2.2.trans HF5.out fun i e => .inr (by have := HW.out; have : i = b3 := e; omega)⟩
set_option maxHeartbeats 1000000 in
theorem dec_any (k f : Nat → Nat) (w : World) (hk : By k) (hf : By f) : Calls Try.prog 20 #[bk k 16, bk f 16] w fun e w' =>
    e = .returned (bk (dec k f) 16) ∧ Fr No w w' := by
  have HK := hid hk; have HF := hid hf; clear hk hf
  go_enter Try.func20, Try.ntmps20
  go_wp2_with (first
    | ((with_reducible show wpList _ _ _ ({ dst := _, op := .box 27 _, type := _, pos := _, after := _, guard := _ } :: _) _ _); have := HB1; refine wpL_box rfl _ _ rfl (bk f 16) rfl (b8 f 16) rfl ?_; intro w2 HB2 HF2 HS2)
    | ((with_reducible show wpList _ _ _ ({ dst := _, op := .box 27 _, type := _, pos := _, after := _, guard := _ } :: _) _ _); refine wpL_box rfl _ _ rfl (bk k 16) rfl (b8 k 16) rfl ?_; intro w1 HB1 HF1 HS1)
    | ((with_reducible show wpList _ _ _ ({ dst := _, op := .alloc 27, type := _, pos := _, after := _, guard := _ } :: _) _ _); refine wpL_alloc rfl _ rfl _ zero16 (b8 (fun _ => 0) 16) rfl ?_; intro w3 HB3 HF3 HS3)
    | ((with_reducible show wpList _ _ _ ({ dst := _, op := .load 27 _, type := _, pos := _, after := _, guard := _ } :: _) _ _); refine wpL_all rfl _ _ rfl w.heap.size rfl _ k 16 _ ((HB1.out.fr HF2.out id).fr HF3.out id) rfl rfl info16 ?_))
  refine (exp_any k _ HK.out).mono ?_
  rintro e w4 ⟨rfl, hf4⟩
  have hB2 := (HB2.out.fr HF3.out id).fr hf4 id
  have hB3 := HB3.out.fr hf4 id
  have hf3 := ((HF1.out.trans' HF2.out).trans' HF3.out).trans' hf4
  obtain ⟨b2, hb2⟩ : ∃ b, w1.heap.size = b := ⟨_, rfl⟩
  obtain ⟨b3, hb3⟩ : ∃ b, w2.heap.size = b := ⟨_, rfl⟩
  have hs1 := HS1.out; have hs2 := HS2.out; have hs3 := HS3.out; have hs4 := hf4.size
  obtain ⟨b1, hb1⟩ : ∃ b, w.heap.size = b := ⟨_, rfl⟩
  obtain ⟨b4, hb4⟩ : ∃ b, w4.heap.size = b := ⟨_, rfl⟩
  rw [hb2] at hs1; rw [hb2, hb3] at hs2; rw [hb3] at hs3; rw [hb4] at hs4
  rw [hb2] at hB2; rw [hb3] at hB3
  rw [hb2, hb3, hb1]
  have HW := hid (show w.heap.size ≤ b2 ∧ w.heap.size ≤ b3 ∧ w.heap.size ≤ b4 by omega); have HN := hid (show b2 ≠ b3 ∧ b2 ≠ b4 ∧ b3 ≠ b4 by omega)
  have HR := hid (show Blk w4 b2 27 (b8 f 16) ∧ Blk w4 b3 27 (b8 (fun _ => 0) 16) ∧ Fr No w w4 from ⟨hB2, hB3, hf3⟩)
  have H4 := hid hb4
  clear HB1 HB2 HB3 HF1 HF2 HF3 HS1 HS2 HS3 this hB2 hB3 hf3 hf4 hb1 hb2 hb3 hb4 hs1 hs2 hs3 hs4
  go_wp2_with (first
    | ((with_reducible show wpList _ _ _ ({ dst := _, op := .alloc 28, type := _, pos := _, after := _, guard := _ } :: _) _ _); refine wpL_alloc rfl _ rfl _ zero176 (b8 (fun _ => 0) 176) rfl ?_; intro w5 HB5 HF5 HS5; rw [H4.out] at HB5 ⊢)
    | ((with_reducible show wpList _ _ _ ({ dst := _, op := .store 28 _ _, type := _, pos := _, after := _, guard := _ } :: _) _ _); refine wpL_whole rfl _ _ _ rfl b4 (fl (keys k)) 176 rfl rfl _ _ HB5.out info176 ?_; intro w6 HB6 HF6 HS6)
    | fail)
  have HR7 := hid (show Blk w6 b2 27 (b8 (ds k f 0) 16) ∧ Blk w6 b3 27 (b8 (fun _ => 0) 16) ∧ Blk w6 b4 28 (b8 (fl (keys k)) 176) ∧ Fr No w w6 from
    ⟨(HR.out.1.fr HF5.out id).fr HF6.out HN.out.2.1, (HR.out.2.1.fr HF5.out id).fr HF6.out HN.out.2.2, HB6.out,
      (HR.out.2.2.trans' HF5.out).trans HF6.out fun i e => .inr (by have := HW.out; have : i = b4 := e; omega)⟩)
  clear HR HB5 HF5 HS5 HB6 HF6 HS6 H4
  go_loopw [6] (fun i wr => ∃ m : Nat, m ≤ 10 ∧ i = .int .i64 (10 - m : Nat) ∧ Hid (Blk wr b2 27 (b8 (ds k f m) 16) ∧ Blk wr b3 27 (b8 (fun _ => 0) 16) ∧ Blk wr b4 28 (b8 (fl (keys k)) 176) ∧ Fr No w wr)) (fun i _ => (intOf i).toNat)
  case atStart => exact ⟨0, by omega, rfl, HR7⟩
  case round =>
    clear HR7
    obtain ⟨m, hm, rfl, HR⟩ := hrel
    by_cases hlt : m < 10
    · obtain ⟨r, hr⟩ : ∃ r, 10 - m = r := ⟨_, rfl⟩
      have HE0 := hid (show ds k f (m + 1) = rep unbox (trn 3 (mixB r (comb (ds k f m) (keys k r)))) by rw [← hr]; rfl)
      have hr1 : r ≤ 10 := by omega
      have hr0 : 1 ≤ r := by omega
      have hri : (r : Int) < 11 := by omega
      rw [hr]
      go_wp2_with fail
      have hr16 : b8 (fun i => fl (keys k) (r * 16 + i)) 16 = b8 (keys k r) 16 := b8_congr (fl_at (keys k) r)
      have q1 := HR.out.1.range 0 (b8 (ds k f m) 16) (by rw [b8_length, List.drop_zero, List.take_of_length_le (by simp)])
      have q2 := blk_row HR.out.2.2.1 (r * 16) 16 (by omega)
      rw [hr16] at q2
      have hold : Facts.hold [(0, fun w' => w'.rangeAt b2 0 (b8 (ds k f m) 16)), (3, fun w' => w'.rangeAt b4 (r * 16) (b8 (keys k r) 16))] wr.drew := Facts.cons_hold q1 (Facts.cons_hold q2 (Facts.nil_hold _))
      clear hr16 q1 q2
      refine wpD_region hold (by kernel_rfl) 6 rfl ?_
      (refine wpD_take 0 _ rfl (by kernel_rfl) (by kernel_rfl) (by kernel_rfl) (fun _ _ _ h => h) List.mem_cons_self (by rfl) (exec_load _ _ rfl b2 0 rfl _ _ rfl rfl (by simpa using info16)) (by assumption) ?_; simp only [Act.put, List.setIfInBounds_toArray, List.set_cons_zero, List.set_cons_succ])
      (refine wpD_plain 1 (v := ?_) rfl (by kernel_rfl) (by kernel_rfl) (by kernel_rfl) (fun _ _ _ h => h) (by rfl) ?_ (by assumption) ?_; rotate_left; (intro _w; go_simp; try with_reducible rfl); simp only [Act.put, List.setIfInBounds_toArray, List.set_cons_zero, List.set_cons_succ])
      (refine wpD_plain 2 (v := ?_) rfl (by kernel_rfl) (by kernel_rfl) (by kernel_rfl) (fun _ _ _ h => h) (by rfl) ?_ (by assumption) ?_; rotate_left; (intro _w; go_simp; try with_reducible rfl); simp only [Act.put, List.setIfInBounds_toArray, List.set_cons_zero, List.set_cons_succ])
      (refine wpD_take 3 _ rfl (by kernel_rfl) (by kernel_rfl) (by kernel_rfl) (fun _ _ _ h => h) (List.mem_cons_of_mem _ List.mem_cons_self) (by rfl) (exec_load _ _ rfl b4 (r * 16) rfl _ _ rfl rfl (by simpa using info16)) (by assumption) ?_; simp only [Act.put, List.setIfInBounds_toArray, List.set_cons_zero, List.set_cons_succ])
      refine wpD_only 4 [] rfl (by kernel_rfl) (by kernel_rfl) (by rfl) (fun K4 hK4 => ?_)
      refine wp_call _ [_, _] _ rfl _ [] rfl (fun _ _ => by kernel_rfl) [bk (ds k f m) 16, bk (keys k r) 16] rfl ?_
      refine (comb_any (ds k f m) (keys k r) _ (ds_by HK.out HF.out m) (keys_by HK.out r)).mono ?_
      rintro e w5 ⟨rfl, hf5⟩
      refine ⟨_, rfl, hK4 _ _ (Facts.nil_hold _) ?_⟩
      clear hK4 K4 hold
      simp only [Act.put, List.setIfInBounds_toArray, List.set_cons_zero, List.set_cons_succ]
      refine wpD_only 5 [] rfl (by kernel_rfl) (by kernel_rfl) (by rfl) (fun K5 hK5 => ?_)
      refine wp_row _ _ _ rfl b2 0 (comb (ds k f m) (keys k r)) 16 rfl rfl _ _ 16 (HR.out.1.drew.fr hf5 id) (by decide) info16 ?_
      intro w6 HB6 HF6 HS6
      have hb6 := HB6.out
      rw [over_all] at hb6
      refine hK5 _ _ (Facts.nil_hold _) ?_
      clear hK5 K5
      simp only [Act.put, List.setIfInBounds_toArray, List.set_cons_zero, List.set_cons_succ]
      refine wpD_done (by kernel_rfl) ?_ _
      have HG0 := hid ((ds_by HK.out HF.out m).comb (keys_by HK.out r))
      obtain ⟨g, hg⟩ : ∃ g, comb (ds k f m) (keys k r) = g := ⟨_, rfl⟩
      rw [hg] at HG0 HE0 hb6 ⊢
      clear hg
      have HY := hid (show Blk w6 b2 27 (b8 g 16) ∧ Blk w6 b3 27 (b8 (fun _ => 0) 16) ∧ Blk w6 b4 28 (b8 (fl (keys k)) 176) ∧ Fr No w w6 from
        ⟨hb6, (HR.out.2.1.drew.fr hf5 id).fr HF6.out (fun e => HN.out.1 e.symm), (HR.out.2.2.1.drew.fr hf5 id).fr HF6.out (fun e => HN.out.2.1 e.symm), (HR.out.2.2.2.drew.trans' hf5).trans HF6.out fun i e => .inr (by have := HW.out; have : i = b2 := e; omega)⟩)
      clear HR HB6 HF6 HS6 hf5 hb6
      by_cases hlast : r < 10
      · have HE := hid (show ds k f (m + 1) = rep unbox (trn 3 (mx (wt 14 11 13 9) g)) by rw [HE0.out, mixB, if_pos hlast])
        clear HE0
        go_wp2_with (first
          | ((with_reducible show wpList _ _ _ ({ dst := _, op := .load 27 _, type := _, pos := _, after := _, guard := _ } :: _) _ _); refine wpL_all rfl _ _ rfl b2 rfl _ g 16 _ HY.out.1 rfl rfl info16 ?_)
          | ((with_reducible show wpList _ _ _ ({ dst := _, op := .build 38 _, type := _, pos := _, after := _, guard := _ } :: _) _ _); refine wpL_build rfl _ [(0, .const (.int .u8 14)), (1, .const (.int .u8 11)), (2, .const (.int .u8 13)), (3, .const (.int .u8 9))] rfl (bk (wt 14 11 13 9) 4) (build4 14 11 13 9 _) ?_)
          | fail)
        refine (mix_any (wt 14 11 13 9) g _ wt_b HG0.out).mono ?_
        rintro e w4 ⟨rfl, hf4⟩
        have HZ := hid (show Blk w4 b2 27 (b8 g 16) ∧ Blk w4 b3 27 (b8 (fun _ => 0) 16) ∧ Blk w4 b4 28 (b8 (fl (keys k)) 176) ∧ Fr No w w4 from
          ⟨HY.out.1.fr hf4 id, HY.out.2.1.fr hf4 id, HY.out.2.2.1.fr hf4 id, HY.out.2.2.2.trans' hf4⟩)
        clear HY hf4
        have HG := hid (By.mx wt_b : By (mx (wt 14 11 13 9) g))
        go_wp2_with (first
          | ((with_reducible show wpList _ _ _ ({ dst := _, op := .store 27 _ _, type := _, pos := _, after := _, guard := _ } :: _) _ _); refine wpL_whole rfl _ _ _ rfl b2 (mx (wt 14 11 13 9) g) 16 rfl rfl _ _ HZ.out.1 info16 ?_; intro w3 HB3 HF3 HS3; have HY := hid (And.intro HB3.out (And.intro (HZ.out.2.1.fr HF3.out (fun e => HN.out.1 e.symm)) (And.intro (HZ.out.2.2.1.fr HF3.out (fun e => HN.out.2.1 e.symm)) (HZ.out.2.2.2.trans HF3.out fun i e => .inr (by have := HW.out; have : i = b2 := e; omega))))))
          | ((with_reducible show wpList _ _ _ ({ dst := _, op := .load 27 _, type := _, pos := _, after := _, guard := _ } :: _) _ _); refine wpL_all rfl _ _ rfl b2 rfl _ (mx (wt 14 11 13 9) g) 16 _ HY.out.1 rfl rfl info16 ?_)
          | fail)
        clear HZ HB3 HF3 HS3
        go_wp2_with (first
          | ((with_reducible show wpList _ _ _ ({ dst := _, op := .load 27 _, type := _, pos := _, after := _, guard := _ } :: _) _ _); refine wpL_all rfl _ _ rfl b2 rfl _ (mx (wt 14 11 13 9) g) 16 _ HY.out.1 rfl rfl info16 ?_)
          | fail)
        refine (turn_any 3 (mx (wt 14 11 13 9) g) _ (.inr rfl)).mono ?_
        rintro e w7 ⟨rfl, hf7⟩
        have HZ := hid (show Blk w7 b2 27 (b8 (mx (wt 14 11 13 9) g) 16) ∧ Blk w7 b3 27 (b8 (fun _ => 0) 16) ∧ Blk w7 b4 28 (b8 (fl (keys k)) 176) ∧ Fr No w w7 from
          ⟨HY.out.1.fr hf7 id, HY.out.2.1.fr hf7 id, HY.out.2.2.1.fr hf7 id, HY.out.2.2.2.trans' hf7⟩)
        clear HY hf7
        go_wp2_with fail
        refine (rep_any _ unbox (trn 3 (mx (wt 14 11 13 9) g)) _ unbox_fn (HG.out.trn 3)).mono ?_
        rintro e w8 ⟨rfl, hf8⟩
        have HY := hid (show Blk w8 b2 27 (b8 (mx (wt 14 11 13 9) g) 16) ∧ Blk w8 b3 27 (b8 (fun _ => 0) 16) ∧ Blk w8 b4 28 (b8 (fl (keys k)) 176) ∧ Fr No w w8 from
          ⟨HZ.out.1.fr hf8 id, HZ.out.2.1.fr hf8 id, HZ.out.2.2.1.fr hf8 id, HZ.out.2.2.2.trans' hf8⟩)
        clear HZ hf8
        go_wp2_with (first
          | ((with_reducible show wpList _ _ _ ({ dst := _, op := .store 27 _ _, type := _, pos := _, after := _, guard := _ } :: _) _ _); refine wpL_whole rfl _ _ _ rfl b2 (rep unbox (trn 3 (mx (wt 14 11 13 9) g))) 16 rfl rfl _ _ HY.out.1 info16 ?_; intro w9 HB9 HF9 HS9)
          | fail)
        have hb9 := HB9.out
        rw [← HE.out] at hb9
        have HR' := hid (show Blk w9 b2 27 (b8 (ds k f (m + 1)) 16) ∧ Blk w9 b3 27 (b8 (fun _ => 0) 16) ∧ Blk w9 b4 28 (b8 (fl (keys k)) 176) ∧ Fr No w w9 from
          ⟨hb9, HY.out.2.1.fr HF9.out (fun e => HN.out.1 e.symm), HY.out.2.2.1.fr HF9.out (fun e => HN.out.2.1 e.symm), HY.out.2.2.2.trans HF9.out fun i e => .inr (by have := HW.out; have : i = b2 := e; omega)⟩)
        clear HY HB9 HF9 HS9 hb9 HE HG
        have hr9 : ((r : Int) - 1) = ((10 - (m + 1) : Nat) : Int) := by omega
        go_wp2_with fail
        go_roundw
        case rel => exact ⟨m + 1, by omega, by first | go_num | (rw [hr9]), HR'⟩
        case measure => simp [intOf]; omega
      · have HE := hid (show ds k f (m + 1) = rep unbox (trn 3 g) by rw [HE0.out, mixB, if_neg hlast])
        clear HE0
        have HG := HG0
        go_wp2_with (first
          | ((with_reducible show wpList _ _ _ ({ dst := _, op := .load 27 _, type := _, pos := _, after := _, guard := _ } :: _) _ _); refine wpL_all rfl _ _ rfl b2 rfl _ (g) 16 _ HY.out.1 rfl rfl info16 ?_)
          | fail)
        refine (turn_any 3 (g) _ (.inr rfl)).mono ?_
        rintro e w7 ⟨rfl, hf7⟩
        have HZ := hid (show Blk w7 b2 27 (b8 (g) 16) ∧ Blk w7 b3 27 (b8 (fun _ => 0) 16) ∧ Blk w7 b4 28 (b8 (fl (keys k)) 176) ∧ Fr No w w7 from
          ⟨HY.out.1.fr hf7 id, HY.out.2.1.fr hf7 id, HY.out.2.2.1.fr hf7 id, HY.out.2.2.2.trans' hf7⟩)
        clear HY hf7
        go_wp2_with fail
        refine (rep_any _ unbox (trn 3 (g)) _ unbox_fn (HG.out.trn 3)).mono ?_
        rintro e w8 ⟨rfl, hf8⟩
        have HY := hid (show Blk w8 b2 27 (b8 (g) 16) ∧ Blk w8 b3 27 (b8 (fun _ => 0) 16) ∧ Blk w8 b4 28 (b8 (fl (keys k)) 176) ∧ Fr No w w8 from
          ⟨HZ.out.1.fr hf8 id, HZ.out.2.1.fr hf8 id, HZ.out.2.2.1.fr hf8 id, HZ.out.2.2.2.trans' hf8⟩)
        clear HZ hf8
        go_wp2_with (first
          | ((with_reducible show wpList _ _ _ ({ dst := _, op := .store 27 _ _, type := _, pos := _, after := _, guard := _ } :: _) _ _); refine wpL_whole rfl _ _ _ rfl b2 (rep unbox (trn 3 (g))) 16 rfl rfl _ _ HY.out.1 info16 ?_; intro w9 HB9 HF9 HS9)
          | fail)
        have hb9 := HB9.out
        rw [← HE.out] at hb9
        have HR' := hid (show Blk w9 b2 27 (b8 (ds k f (m + 1)) 16) ∧ Blk w9 b3 27 (b8 (fun _ => 0) 16) ∧ Blk w9 b4 28 (b8 (fl (keys k)) 176) ∧ Fr No w w9 from
          ⟨hb9, HY.out.2.1.fr HF9.out (fun e => HN.out.1 e.symm), HY.out.2.2.1.fr HF9.out (fun e => HN.out.2.1 e.symm), HY.out.2.2.2.trans HF9.out fun i e => .inr (by have := HW.out; have : i = b2 := e; omega)⟩)
        clear HY HB9 HF9 HS9 hb9 HE HG
        have hr9 : ((r : Int) - 1) = ((10 - (m + 1) : Nat) : Int) := by omega
        go_wp2_with fail
        go_roundw
        case rel => exact ⟨m + 1, by omega, by first | go_num | (rw [hr9]), HR'⟩
        case measure => simp [intOf]; omega
    · obtain rfl : m = 10 := by omega
      go_wp2_with (first
        | ((with_reducible show wpList _ _ _ ({ dst := _, op := .load 27 _, type := _, pos := _, after := _, guard := _ } :: _) _ _); have := HB7; refine wpL_partG rfl _ _ rfl b4 0 16 rfl _ (fl (keys k)) (keys k 0) 176 _ HR.out.2.2.1 (by decide) (fl_at (keys k) 0) rfl rfl info16 ?_)
        | ((with_reducible show wpList _ _ _ ({ dst := _, op := .load 27 _, type := _, pos := _, after := _, guard := _ } :: _) _ _); refine wpL_all rfl _ _ rfl b2 rfl _ (ds k f 10) 16 _ HR.out.1 rfl rfl info16 ?_; have HB7 := hid trivial)
        | fail)
      refine (comb_any (ds k f 10) (keys k 0) _ (ds_by HK.out HF.out 10) (keys_by HK.out 0)).mono ?_
      rintro e w4 ⟨rfl, hf4⟩
      go_wp2_with (first
        | ((with_reducible show wpList _ _ _ ({ dst := _, op := .store 27 _ _, type := _, pos := _, after := _, guard := _ } :: _) _ _); refine wpL_whole rfl _ _ _ rfl b3 (comb (ds k f 10) (keys k 0)) 16 rfl rfl _ _ (HR.out.2.1.fr hf4 id) info16 ?_; intro w5 HB5 HF5 HS5)
        | fail)
      refine ret_cell rfl _ rfl HB5.out rfl rfl (by simpa using info16) rfl ?_
      exact ⟨rfl, (HR.out.2.2.2.trans' hf4).trans HF5.out fun i e => .inr (by have := HW.out; have : i = b3 := e; omega)⟩
end Go.Proofs.Ytgbcddhgeepjgaa.AE
