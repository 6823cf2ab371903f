/-
  Part 9 of the proof: AesN, SeD, SeB, SeM, SeK.
-/
import Derived.Test.YtakmeipmngeilaaSe808
import Derived.Test.YtakmeipmngeilaaSe806
import Derived.Lib.AppendStr
set_option linter.unusedVariables false
set_option linter.unusedSimpArgs false
namespace Go.Proofs.Ytakmeipmngeilaa.AE
set_option maxRecDepth 100000
open Go.RowKit K

theorem build4 (a b c d : Nat) (w : World) : (Instr.build 84 #[(0, .int .u8 (a : Int)), (1, .int .u8 (b : Int)), (2, .int .u8 (c : Int)), (3, .int .u8 (d : Int))]).run Try.prog w = .ok (bk (wt a b c d) 4) w := by kernel_rfl
theorem wt_f : By (wt 2 3 1 1) := wt_by (by decide) (by decide) (by decide) (by decide)
theorem wt_b : By (wt 14 11 13 9) := wt_by (by decide) (by decide) (by decide) (by decide)
theorem trn_by {f : Nat → Nat} (t : Nat) (h : By f) : By (trn t f) := h.trn t
theorem mid_by {k f : Nat → Nat} (hk : By k) (hf : By f) (n : Nat) : By (trn 1 (rep box (st k f n))) := ((st_by hk hf n).rep fun _ h => box_lt h).trn 1

set_option maxHeartbeats 1000000 in
theorem enc_any (k f : Nat → Nat) (w : World) (hk : By k) (hf : By f) : Calls Try.prog 69 #[bk k 16, bk f 16] w fun e w' =>
    e = .returned (bk (enc k f) 16) ∧ Fr No w w' := by
  have HK := hid hk; have HF := hid hf; clear hk hf
  go_enter Try.func69, Try.ntmps69
  go_wp2_with (first
    | ((with_reducible show wpList _ _ _ (⟨_, .box 57 _, _, _, _, _⟩ :: _) _ _); have := HB1; refine wpL_box rfl _ _ rfl (bk f 16) rfl (b8 f 16) rfl ?_; intro w2 HB2 HF2 HS2)
    | ((with_reducible show wpList _ _ _ (⟨_, .box 57 _, _, _, _, _⟩ :: _) _ _); refine wpL_box rfl _ _ rfl (bk k 16) rfl (b8 k 16) rfl ?_; intro w1 HB1 HF1 HS1)
    | ((with_reducible show wpList _ _ _ (⟨_, .alloc 57, _, _, _, _⟩ :: _) _ _); refine wpL_alloc rfl _ rfl _ zero16 (b8 (fun _ => 0) 16) rfl ?_; intro w3 HB3 HF3 HS3)
    | ((with_reducible show wpList _ _ _ (⟨_, .load 57 _, _, _, _, _⟩ :: _) _ _); refine wpL_all rfl _ _ rfl w.heap.size rfl _ k 16 _ ((HB1.out.fr HF2.out id).fr HF3.out id) rfl rfl info16 ?_))
  refine (exp_any k _ HK.out).mono ?_
  rintro e w4 ⟨rfl, hf4⟩
  have hB2 := (HB2.out.fr HF3.out id).fr hf4 id
  have hB3 := HB3.out.fr hf4 id
  have hf3 := ((HF1.out.trans' HF2.out).trans' HF3.out).trans' hf4
  obtain ⟨b2, hb2⟩ : ∃ b, w1.heap.size = b := ⟨_, rfl⟩
  obtain ⟨b3, hb3⟩ : ∃ b, w2.heap.size = b := ⟨_, rfl⟩
  have hs1 := HS1.out; have hs2 := HS2.out; have hs3 := HS3.out; have hs4 := hf4.size
  obtain ⟨b1, hb1⟩ : ∃ b, w.heap.size = b := ⟨_, rfl⟩
  obtain ⟨b4, hb4⟩ : ∃ b, w4.heap.size = b := ⟨_, rfl⟩
  rw [hb2] at hs1; rw [hb2, hb3] at hs2; rw [hb3] at hs3; rw [hb4] at hs4
  rw [hb2] at hB2; rw [hb3] at hB3
  rw [hb2, hb3, hb1]
  have HW := hid (show w.heap.size ≤ b2 ∧ w.heap.size ≤ b3 ∧ w.heap.size ≤ b4 by omega); have HN := hid (show b2 ≠ b3 ∧ b2 ≠ b4 ∧ b3 ≠ b4 by omega)
  have HR := hid (show Blk w4 b2 57 (b8 f 16) ∧ Blk w4 b3 57 (b8 (fun _ => 0) 16) ∧ Fr No w w4 from ⟨hB2, hB3, hf3⟩)
  have H4 := hid hb4
  clear HB1 HB2 HB3 HF1 HF2 HF3 HS1 HS2 HS3 this hB2 hB3 hf3 hf4 hb1 hb2 hb3 hb4 hs1 hs2 hs3 hs4
  go_wp2_with (first
    | ((with_reducible show wpList _ _ _ (⟨_, .alloc 82, _, _, _, _⟩ :: _) _ _); refine wpL_alloc rfl _ rfl _ zero176 (b8 (fun _ => 0) 176) rfl ?_; intro w5 HB5 HF5 HS5; rw [H4.out] at HB5 ⊢)
    | ((with_reducible show wpList _ _ _ (⟨_, .store 82 _ _, _, _, _, _⟩ :: _) _ _); refine wpL_whole rfl _ _ _ rfl b4 (fl (keys k)) 176 rfl rfl _ _ HB5.out info176 ?_; intro w6 HB6 HF6 HS6)
    | ((with_reducible show wpList _ _ _ (⟨_, .load 57 _, _, _, _, _⟩ :: _) _ _); have := HB7; refine wpL_partG rfl _ _ rfl b4 0 16 rfl _ (fl (keys k)) (keys k 0) 176 _ HB6.out (by decide) (fl_at (keys k) 0) rfl rfl info16 ?_)
    | ((with_reducible show wpList _ _ _ (⟨_, .load 57 _, _, _, _, _⟩ :: _) _ _); refine wpL_all rfl _ _ rfl b2 rfl _ f 16 _ ((HR.out.1.fr HF5.out id).fr HF6.out HN.out.2.1) rfl rfl info16 ?_; have HB7 := hid trivial))
  refine (comb_any f (keys k 0) _ HF.out (keys_by HK.out 0)).mono ?_
  rintro e w7 ⟨rfl, hf7⟩
  have HR7 := hid (show Blk w7 b2 57 (b8 f 16) ∧ Blk w7 b3 57 (b8 (fun _ => 0) 16) ∧ Blk w7 b4 82 (b8 (fl (keys k)) 176) ∧ Fr No w w7 from
    ⟨((HR.out.1.fr HF5.out id).fr HF6.out HN.out.2.1).fr hf7 id, ((HR.out.2.1.fr HF5.out id).fr HF6.out HN.out.2.2).fr hf7 id, HB6.out.fr hf7 id,
      ((HR.out.2.2.trans' HF5.out).trans HF6.out fun i e => .inr (by have := HW.out; have : i = b4 := e; omega)).trans' hf7⟩)
  clear HR HB5 HF5 HS5 HB6 HF6 HS6 hf7 HB7 this H4
  go_wp2_with (first
    | ((with_reducible show wpList _ _ _ (⟨_, .store 57 _ _, _, _, _, _⟩ :: _) _ _); refine wpL_whole rfl _ _ _ rfl b2 (comb f (keys k 0)) 16 rfl rfl _ _ HR7.out.1 info16 ?_; intro w8 HB8 HF8 HS8)
    | fail)
  have HR := hid (show Blk w8 b2 57 (b8 (st k f 0) 16) ∧ Blk w8 b3 57 (b8 (fun _ => 0) 16) ∧ Blk w8 b4 82 (b8 (fl (keys k)) 176) ∧ Fr No w w8 from
    ⟨HB8.out, HR7.out.2.1.fr HF8.out (fun e => HN.out.1 e.symm), HR7.out.2.2.1.fr HF8.out (fun e => HN.out.2.1 e.symm), HR7.out.2.2.2.trans HF8.out fun i e => .inr (by have := HW.out; have : i = b2 := e; omega)⟩)
  clear HR7 HB8 HF8 HS8
  go_loopw [6] (fun i wr => ∃ n : Nat, n ≤ 10 ∧ i = .int .i64 (n + 1 : Nat) ∧ Hid (Blk wr b2 57 (b8 (st k f n) 16) ∧ Blk wr b3 57 (b8 (fun _ => 0) 16) ∧ Blk wr b4 82 (b8 (fl (keys k)) 176) ∧ Fr No w wr)) (fun i _ => 11 - (intOf i).toNat)
  case atStart => exact ⟨0, by omega, rfl, HR⟩
  case round =>
    clear HR
    obtain ⟨n, hn, rfl, HR⟩ := hrel
    by_cases hlt : n < 10
    · obtain ⟨r, hr⟩ : ∃ r, n + 1 = r := ⟨_, rfl⟩
      have hst : st k f r = comb (mixF r (trn 1 (rep box (st k f n)))) (keys k r) := by rw [← hr]; rfl
      have HST := hid hst
      have HRR := hid hr
      have hr1 : r ≤ 10 := by omega
      have hr0 : 1 ≤ r := by omega
      have hri : (r : Int) < 11 := by omega
      rw [hr]
      clear hst
      go_wp2_with (first
        | ((with_reducible show wpList _ _ _ (⟨_, .load 57 _, _, _, _, _⟩ :: _) _ _); refine wpL_all rfl _ _ rfl b2 rfl _ (st k f n) 16 _ HR.out.1 rfl rfl info16 ?_)
        | fail)
      refine (rep_any _ box (st k f n) _ box_fn (st_by HK.out HF.out n)).mono ?_
      rintro e w1 ⟨rfl, hf1⟩
      have HR1 := hid (show Blk w1 b2 57 (b8 (st k f n) 16) ∧ Blk w1 b3 57 (b8 (fun _ => 0) 16) ∧ Blk w1 b4 82 (b8 (fl (keys k)) 176) ∧ Fr No w w1 from
        ⟨HR.out.1.fr hf1 id, HR.out.2.1.fr hf1 id, HR.out.2.2.1.fr hf1 id, HR.out.2.2.2.trans' hf1⟩)
      clear HR hf1
      go_wp2_with fail
      refine (turn_any 1 (rep box (st k f n)) _ (.inl rfl)).mono ?_
      rintro e w2 ⟨rfl, hf2⟩
      have HM := hid (mid_by HK.out HF.out n)
      obtain ⟨g, hg⟩ : ∃ g, trn 1 (rep box (st k f n)) = g := ⟨_, rfl⟩
      rw [hg] at HM HST ⊢
      clear hg
      have HR2 := hid (show Blk w2 b2 57 (b8 (st k f n) 16) ∧ Blk w2 b3 57 (b8 (fun _ => 0) 16) ∧ Blk w2 b4 82 (b8 (fl (keys k)) 176) ∧ Fr No w w2 from
        ⟨HR1.out.1.fr hf2 id, HR1.out.2.1.fr hf2 id, HR1.out.2.2.1.fr hf2 id, HR1.out.2.2.2.trans' hf2⟩)
      clear HR1 hf2
      by_cases hlast : r < 10
      · have HE := hid (show st k f r = comb (mx (wt 2 3 1 1) g) (keys k r) by rw [HST.out, mixF, if_pos hlast])
        clear HST
        go_wp2_with (first
          | ((with_reducible show wpList _ _ _ (⟨_, .load 57 _, _, _, _, _⟩ :: _) _ _); have := HB3; refine wpL_all rfl _ _ rfl b2 rfl _ g 16 _ HB3.out rfl rfl info16 ?_)
          | ((with_reducible show wpList _ _ _ (⟨_, .build 84 _, _, _, _, _⟩ :: _) _ _); refine wpL_build rfl _ [(0, .const (.int .u8 2)), (1, .const (.int .u8 3)), (2, .const (.int .u8 1)), (3, .const (.int .u8 1))] rfl (bk (wt 2 3 1 1) 4) (build4 2 3 1 1 _) ?_)
          | ((with_reducible show wpList _ _ _ (⟨_, .store 57 _ _, _, _, _, _⟩ :: _) _ _); refine wpL_whole rfl _ _ _ rfl b2 g 16 rfl rfl _ _ HR2.out.1 info16 ?_; intro w3 HB3 HF3 HS3)
          | fail)
        refine (mix_any (wt 2 3 1 1) g _ wt_f HM.out).mono ?_
        rintro e w4 ⟨rfl, hf4⟩
        have HR3 := hid (show Blk w4 b2 57 (b8 g 16) ∧ Blk w4 b3 57 (b8 (fun _ => 0) 16) ∧ Blk w4 b4 82 (b8 (fl (keys k)) 176) ∧ Fr No w w4 from
          ⟨HB3.out.fr hf4 id, (HR2.out.2.1.fr HF3.out (fun e => HN.out.1 e.symm)).fr hf4 id, (HR2.out.2.2.1.fr HF3.out (fun e => HN.out.2.1 e.symm)).fr hf4 id, (HR2.out.2.2.2.trans HF3.out fun i e => .inr (by have := HW.out; have : i = b2 := e; omega)).trans' hf4⟩)
        clear HR2 HB3 HF3 HS3 hf4
        have HR2 := HR3
        clear HR3
        have HG := hid (By.mx wt_f : By (mx (wt 2 3 1 1) g))
        go_wp2_with (first
          | ((with_reducible show wpList _ _ _ (⟨_, .store 57 _ _, _, _, _, _⟩ :: _) _ _); refine wpL_whole rfl _ _ _ rfl b2 (mx (wt 2 3 1 1) g) 16 rfl rfl _ _ HR2.out.1 info16 ?_; intro w3 HB3 HF3 HS3)
          | fail)
        have HX := hid (show Blk w3 b2 57 (b8 (mx (wt 2 3 1 1) g) 16) ∧ Blk w3 b3 57 (b8 (fun _ => 0) 16) ∧ Blk w3 b4 82 (b8 (fl (keys k)) 176) ∧ Fr No w w3 from ⟨HB3.out, HR2.out.2.1.fr HF3.out (fun e => HN.out.1 e.symm), HR2.out.2.2.1.fr HF3.out (fun e => HN.out.2.1 e.symm), HR2.out.2.2.2.trans HF3.out fun i e => .inr (by have := HW.out; have : i = b2 := e; omega)⟩)
        clear HR2 HB3 HF3 HS3
        have hr16 : b8 (fun i => fl (keys k) (r * 16 + i)) 16 = b8 (keys k r) 16 := b8_congr (fl_at (keys k) r)
        have q1 := HX.out.1.range 0 (b8 (mx (wt 2 3 1 1) g) 16) (by rw [b8_length, List.drop_zero, List.take_of_length_le (by simp)])
        have q2 := blk_row HX.out.2.2.1 (r * 16) 16 (by omega)
        rw [hr16] at q2
        have hold : Facts.hold [(0, fun w' => w'.rangeAt b2 0 (b8 (mx (wt 2 3 1 1) g) 16)), (3, fun w' => w'.rangeAt b4 (r * 16) (b8 (keys k r) 16))] w3.drew := Facts.cons_hold q1 (Facts.cons_hold q2 (Facts.nil_hold _))
        clear hr16 q1 q2
        refine wpD_region hold (by kernel_rfl) 6 rfl ?_
        (refine wpD_take 0 _ rfl (by kernel_rfl) (by kernel_rfl) (by kernel_rfl) (fun _ _ _ h => h) List.mem_cons_self (by rfl) (exec_load _ _ rfl b2 0 rfl _ _ rfl rfl (by simpa using info16)) (by assumption) ?_; simp only [Act.put, List.setIfInBounds_toArray, List.set_cons_zero, List.set_cons_succ])
        (refine wpD_plain 1 (v := ?_) rfl (by kernel_rfl) (by kernel_rfl) (by kernel_rfl) (fun _ _ _ h => h) (by rfl) ?_ (by assumption) ?_; rotate_left; (intro _w; go_simp; try with_reducible rfl); simp only [Act.put, List.setIfInBounds_toArray, List.set_cons_zero, List.set_cons_succ])
        (refine wpD_plain 2 (v := ?_) rfl (by kernel_rfl) (by kernel_rfl) (by kernel_rfl) (fun _ _ _ h => h) (by rfl) ?_ (by assumption) ?_; rotate_left; (intro _w; go_simp; try with_reducible rfl); simp only [Act.put, List.setIfInBounds_toArray, List.set_cons_zero, List.set_cons_succ])
        (refine wpD_take 3 _ rfl (by kernel_rfl) (by kernel_rfl) (by kernel_rfl) (fun _ _ _ h => h) (List.mem_cons_of_mem _ List.mem_cons_self) (by rfl) (exec_load _ _ rfl b4 (r * 16) rfl _ _ rfl rfl (by simpa using info16)) (by assumption) ?_; simp only [Act.put, List.setIfInBounds_toArray, List.set_cons_zero, List.set_cons_succ])
        refine wpD_only 4 [] rfl (by kernel_rfl) (by kernel_rfl) (by rfl) (fun K4 hK4 => ?_)
        refine wp_call _ [_, _] _ rfl _ [] rfl (fun _ _ => by kernel_rfl) [bk (mx (wt 2 3 1 1) g) 16, bk (keys k r) 16] rfl ?_
        refine (comb_any (mx (wt 2 3 1 1) g) (keys k r) _ HG.out (keys_by HK.out r)).mono ?_
        rintro e w5 ⟨rfl, hf5⟩
        refine ⟨_, rfl, hK4 _ _ (Facts.nil_hold _) ?_⟩
        clear hK4 K4 hold
        simp only [Act.put, List.setIfInBounds_toArray, List.set_cons_zero, List.set_cons_succ]
        refine wpD_only 5 [] rfl (by kernel_rfl) (by kernel_rfl) (by rfl) (fun K5 hK5 => ?_)
        refine wp_row _ _ _ rfl b2 0 (comb (mx (wt 2 3 1 1) g) (keys k r)) 16 rfl rfl _ _ 16 (HX.out.1.drew.fr hf5 id) (by decide) info16 ?_
        intro w6 HB6 HF6 HS6
        have hb6 := HB6.out
        rw [over_all, ← HE.out] at hb6
        refine hK5 _ _ (Facts.nil_hold _) ?_
        clear hK5 K5
        simp only [Act.put, List.setIfInBounds_toArray, List.set_cons_zero, List.set_cons_succ]
        refine wpD_done (by kernel_rfl) ?_ _
        have HR' := hid (show Blk w6 b2 57 (b8 (st k f r) 16) ∧ Blk w6 b3 57 (b8 (fun _ => 0) 16) ∧ Blk w6 b4 82 (b8 (fl (keys k)) 176) ∧ Fr No w w6 from
          ⟨hb6, (HX.out.2.1.drew.fr hf5 id).fr HF6.out (fun e => HN.out.1 e.symm), (HX.out.2.2.1.drew.fr hf5 id).fr HF6.out (fun e => HN.out.2.1 e.symm), (HX.out.2.2.2.drew.trans' hf5).trans HF6.out fun i e => .inr (by have := HW.out; have : i = b2 := e; omega)⟩)
        clear HX HB6 HF6 HS6 hf5 hb6 HE HM HG
        go_wp2_with fail
        go_roundw
        case rel => exact ⟨r, by omega, by go_num, HR'⟩
        case measure => simp [intOf]; omega
      · have HE := hid (show st k f r = comb g (keys k r) by rw [HST.out, mixF, if_neg hlast])
        clear HST
        go_wp2_with (first
          | ((with_reducible show wpList _ _ _ (⟨_, .store 57 _ _, _, _, _, _⟩ :: _) _ _); refine wpL_whole rfl _ _ _ rfl b2 g 16 rfl rfl _ _ HR2.out.1 info16 ?_; intro w3 HB3 HF3 HS3)
          | fail)
        have HG := HM
        have HX := hid (show Blk w3 b2 57 (b8 (g) 16) ∧ Blk w3 b3 57 (b8 (fun _ => 0) 16) ∧ Blk w3 b4 82 (b8 (fl (keys k)) 176) ∧ Fr No w w3 from ⟨HB3.out, HR2.out.2.1.fr HF3.out (fun e => HN.out.1 e.symm), HR2.out.2.2.1.fr HF3.out (fun e => HN.out.2.1 e.symm), HR2.out.2.2.2.trans HF3.out fun i e => .inr (by have := HW.out; have : i = b2 := e; omega)⟩)
        clear HR2 HB3 HF3 HS3
        have hr16 : b8 (fun i => fl (keys k) (r * 16 + i)) 16 = b8 (keys k r) 16 := b8_congr (fl_at (keys k) r)
        have q1 := HX.out.1.range 0 (b8 (g) 16) (by rw [b8_length, List.drop_zero, List.take_of_length_le (by simp)])
        have q2 := blk_row HX.out.2.2.1 (r * 16) 16 (by omega)
        rw [hr16] at q2
        have hold : Facts.hold [(0, fun w' => w'.rangeAt b2 0 (b8 (g) 16)), (3, fun w' => w'.rangeAt b4 (r * 16) (b8 (keys k r) 16))] w3.drew := Facts.cons_hold q1 (Facts.cons_hold q2 (Facts.nil_hold _))
        clear hr16 q1 q2
        refine wpD_region hold (by kernel_rfl) 6 rfl ?_
        (refine wpD_take 0 _ rfl (by kernel_rfl) (by kernel_rfl) (by kernel_rfl) (fun _ _ _ h => h) List.mem_cons_self (by rfl) (exec_load _ _ rfl b2 0 rfl _ _ rfl rfl (by simpa using info16)) (by assumption) ?_; simp only [Act.put, List.setIfInBounds_toArray, List.set_cons_zero, List.set_cons_succ])
        (refine wpD_plain 1 (v := ?_) rfl (by kernel_rfl) (by kernel_rfl) (by kernel_rfl) (fun _ _ _ h => h) (by rfl) ?_ (by assumption) ?_; rotate_left; (intro _w; go_simp; try with_reducible rfl); simp only [Act.put, List.setIfInBounds_toArray, List.set_cons_zero, List.set_cons_succ])
        (refine wpD_plain 2 (v := ?_) rfl (by kernel_rfl) (by kernel_rfl) (by kernel_rfl) (fun _ _ _ h => h) (by rfl) ?_ (by assumption) ?_; rotate_left; (intro _w; go_simp; try with_reducible rfl); simp only [Act.put, List.setIfInBounds_toArray, List.set_cons_zero, List.set_cons_succ])
        (refine wpD_take 3 _ rfl (by kernel_rfl) (by kernel_rfl) (by kernel_rfl) (fun _ _ _ h => h) (List.mem_cons_of_mem _ List.mem_cons_self) (by rfl) (exec_load _ _ rfl b4 (r * 16) rfl _ _ rfl rfl (by simpa using info16)) (by assumption) ?_; simp only [Act.put, List.setIfInBounds_toArray, List.set_cons_zero, List.set_cons_succ])
        refine wpD_only 4 [] rfl (by kernel_rfl) (by kernel_rfl) (by rfl) (fun K4 hK4 => ?_)
        refine wp_call _ [_, _] _ rfl _ [] rfl (fun _ _ => by kernel_rfl) [bk (g) 16, bk (keys k r) 16] rfl ?_
        refine (comb_any (g) (keys k r) _ HG.out (keys_by HK.out r)).mono ?_
        rintro e w5 ⟨rfl, hf5⟩
        refine ⟨_, rfl, hK4 _ _ (Facts.nil_hold _) ?_⟩
        clear hK4 K4 hold
        simp only [Act.put, List.setIfInBounds_toArray, List.set_cons_zero, List.set_cons_succ]
        refine wpD_only 5 [] rfl (by kernel_rfl) (by kernel_rfl) (by rfl) (fun K5 hK5 => ?_)
        refine wp_row _ _ _ rfl b2 0 (comb (g) (keys k r)) 16 rfl rfl _ _ 16 (HX.out.1.drew.fr hf5 id) (by decide) info16 ?_
        intro w6 HB6 HF6 HS6
        have hb6 := HB6.out
        rw [over_all, ← HE.out] at hb6
        refine hK5 _ _ (Facts.nil_hold _) ?_
        clear hK5 K5
        simp only [Act.put, List.setIfInBounds_toArray, List.set_cons_zero, List.set_cons_succ]
        refine wpD_done (by kernel_rfl) ?_ _
        have HR' := hid (show Blk w6 b2 57 (b8 (st k f r) 16) ∧ Blk w6 b3 57 (b8 (fun _ => 0) 16) ∧ Blk w6 b4 82 (b8 (fl (keys k)) 176) ∧ Fr No w w6 from
          ⟨hb6, (HX.out.2.1.drew.fr hf5 id).fr HF6.out (fun e => HN.out.1 e.symm), (HX.out.2.2.1.drew.fr hf5 id).fr HF6.out (fun e => HN.out.2.1 e.symm), (HX.out.2.2.2.drew.trans' hf5).trans HF6.out fun i e => .inr (by have := HW.out; have : i = b2 := e; omega)⟩)
        clear HX HB6 HF6 HS6 hf5 hb6 HE HM HG
        go_wp2_with fail
        go_roundw
        case rel => exact ⟨r, by omega, by go_num, HR'⟩
        case measure => simp [intOf]; omega
    · obtain rfl : n = 10 := by omega
      go_wp2_with (first
        | ((with_reducible show wpList _ _ _ (⟨_, .load 57 _, _, _, _, _⟩ :: _) _ _); refine wpL_all rfl _ _ rfl b2 rfl _ (st k f 10) 16 _ HR.out.1 rfl rfl info16 ?_)
        | ((with_reducible show wpList _ _ _ (⟨_, .store 57 _ _, _, _, _, _⟩ :: _) _ _); refine wpL_whole rfl _ _ _ rfl b3 (st k f 10) 16 rfl rfl _ _ HR.out.2.1 info16 ?_; intro w5 HB5 HF5 HS5)
        | fail)
      refine ret_cell rfl _ rfl HB5.out rfl rfl (by simpa using info16) rfl ?_
      exact ⟨rfl, HR.out.2.2.2.trans HF5.out fun i e => .inr (by have := HW.out; have : i = b3 := e; omega)⟩
end Go.Proofs.Ytakmeipmngeilaa.AE

set_option linter.unusedVariables false
set_option linter.unusedSimpArgs false
set_option linter.unusedSectionVars false
namespace Go.Proofs.Ytakmeipmngeilaa.SE
set_option maxRecDepth 100000
open Go.RowKit K

abbrev S := ByteArray
/-- Bytes as a text. -/
def sb (l : List UInt8) : S := ⟨l.toArray⟩
theorem sb_size (l : List UInt8) : (sb l).size = l.length := by show l.toArray.size = _; simp
theorem sb_list (l : List UInt8) : (sb l).data.toList = l := by simp [sb]
theorem sb_of (s : S) : sb s.data.toList = s := by simp [sb]
theorem size_list (s : S) : s.data.toList.length = s.size := by simp
theorem s_ext {a b : S} (h : a.data.toList = b.data.toList) : a = b := ByteArray.ext (Array.toList_inj.1 h)
theorem sb_append (a b : List UInt8) : sb a ++ sb b = sb (a ++ b) := s_ext (by simp [sb])
theorem app_sb (a : S) (l : List UInt8) : a ++ sb l = sb (a.data.toList ++ l) := s_ext (by simp [sb])
theorem ext_list (s : S) (a b : Nat) : (s.extract a b).data.toList = (s.data.toList.drop a).take (b - a) := by
  rw [ByteArray.data_extract]
  simp [List.extract_eq_take_drop]
theorem ext_sb (s : S) (a b : Nat) : s.extract a b = sb ((s.data.toList.drop a).take (b - a)) := s_ext (by rw [ext_list, sb_list])
theorem sb_inj {a b : List UInt8} (h : sb a = sb b) : a = b := by rw [← sb_list a, h, sb_list]

/-- The bytes of a number. -/
def eight (n : Nat) : List UInt8 := (List.range 8).map (SH.be8 n)
theorem eight_length (n : Nat) : (eight n).length = 8 := by simp [eight]
/-- The block that is turned for a place of the stream. -/
def nx (n : S) (i : Nat) : Nat → Nat := fun j => ((n.data.toList ++ eight i).getD j 0).toNat
theorem nx_lt (n : S) (i : Nat) : AE.By (nx n i) := fun _ => UInt8.toNat_lt _
/-- A block of the stream. -/
def blkS (ek : Nat → Nat) (n : S) (i : Nat) : Nat → Nat := AE.enc ek (nx n i)
theorem enc_lt {k f : Nat → Nat} (hk : AE.By k) (hf : AE.By f) : AE.By (AE.enc k f) := AE.st_by hk hf 10
/-- Bytes, each together with the stream's. -/
def cmb (ek : Nat → Nat) (n : S) (t : List UInt8) : List UInt8 := (List.range t.length).map fun j => t.getD j 0 ^^^ UInt8.ofNat (blkS ek n (j / 16) (j % 16))
theorem cmb_length (ek : Nat → Nat) (n : S) (t : List UInt8) : (cmb ek n t).length = t.length := by simp [cmb]
theorem cmb_get (ek : Nat → Nat) (n : S) (t : List UInt8) {j : Nat} (h : j < t.length) : (cmb ek n t).getD j 0 = t.getD j 0 ^^^ UInt8.ofNat (blkS ek n (j / 16) (j % 16)) := by
  unfold cmb
  rw [List.getD_eq_getElem?_getD, List.getElem?_map, List.getElem?_range h]
  rfl
theorem cmb_cmb (ek : Nat → Nat) (n : S) (t : List UInt8) : cmb ek n (cmb ek n t) = t := by
  refine List.ext_getElem? fun j => ?_
  by_cases h : j < t.length
  · have h1 := cmb_get ek n (cmb ek n t) (j := j) (by rwa [cmb_length])
    rw [cmb_get ek n t h, UInt8.xor_assoc, UInt8.xor_self, UInt8.xor_zero] at h1
    rw [List.getElem?_eq_getElem (by rwa [cmb_length, cmb_length]), List.getElem?_eq_getElem h]
    rw [List.getD_eq_getElem?_getD, List.getD_eq_getElem?_getD, List.getElem?_eq_getElem (by rwa [cmb_length, cmb_length]), List.getElem?_eq_getElem h] at h1
    exact congrArg some h1
  · rw [List.getElem?_eq_none (by rw [cmb_length, cmb_length]; omega), List.getElem?_eq_none (by omega)]

/-- A tenant with a key. -/
structure Ky where
  num : UInt8
  ek : Nat → Nat
  ak : List UInt8
  hek : AE.By ek
  hak : ak.length = 16
def Ky.cells (k : Ky) : List Value := .int .u8 (k.num.toNat : Int) :: (AE.b8 k.ek 16 ++ u8s k.ak)
def Ky.val (k : Ky) : Value := .agg k.cells.toArray
theorem Ky.cells_length (k : Ky) : k.cells.length = 33 := by simp [Ky.cells, AE.b8, u8s_length, k.hak]
/-- The key of a text of 32 bytes. -/
def kyOf (num : UInt8) (key : S) (h : key.size = 32) : Ky :=
  ⟨num, fun i => (key.data.toList.getD i 0).toNat, key.data.toList.drop 16, fun _ => UInt8.toNat_lt _, by rw [List.length_drop, size_list, h]⟩

variable [SH.Tab]
def Ky.tag (k : Ky) (parts : List UInt8) : List UInt8 := (List.range 16).map fun i => UInt8.ofNat (SH.mac k.ak (k.num :: parts) i)
theorem Ky.tag_length (k : Ky) (p : List UInt8) : (k.tag p).length = 16 := by simp [Ky.tag]
def Ky.ahead (k : Ky) (n : S) (p : List UInt8) : List UInt8 := n.data.toList ++ cmb k.ek n p
def Ky.seal (k : Ky) (n : S) (p : List UInt8) : List UInt8 := k.ahead n p ++ k.tag (k.ahead n p)
theorem Ky.ahead_length (k : Ky) {n : S} (hn : n.size = 8) (p : List UInt8) : (k.ahead n p).length = 8 + p.length := by
  unfold Ky.ahead; rw [List.length_append, cmb_length, size_list, hn]
theorem Ky.seal_length (k : Ky) {n : S} (hn : n.size = 8) (p : List UInt8) : (k.seal n p).length = p.length + 24 := by
  unfold Ky.seal; rw [List.length_append, k.tag_length, k.ahead_length hn]; omega
/-- What is opened, and the error. -/
def Ky.open_ (k : Ky) (s : List UInt8) : List UInt8 × Nat :=
  if s.length < 24 then ([], 80)
  else if k.tag (s.take (s.length - 16)) ≠ s.drop (s.length - 16) then ([], 80)
  else if 224 < s.length then ([], 2)
  else (cmb k.ek (sb (s.take 8)) ((s.take (s.length - 16)).drop 8), 0)
theorem Ky.open_seal (k : Ky) {n : S} (hn : n.size = 8) {p : List UInt8} (hp : p.length ≤ 200) : k.open_ (k.seal n p) = (p, 0) := by
  have hl := k.seal_length hn p
  have ha := k.ahead_length hn p
  have e1 : (k.seal n p).take ((k.seal n p).length - 16) = k.ahead n p := by
    rw [hl, show p.length + 24 - 16 = (k.ahead n p).length by omega]
    unfold Ky.seal
    rw [List.take_left]
  have e2 : (k.seal n p).drop ((k.seal n p).length - 16) = k.tag (k.ahead n p) := by
    rw [hl, show p.length + 24 - 16 = (k.ahead n p).length by omega]
    unfold Ky.seal
    rw [List.drop_left]
  have e3 : (k.seal n p).take 8 = n.data.toList := by
    unfold Ky.seal Ky.ahead
    rw [List.append_assoc, List.take_append_of_le_length (by rw [size_list, hn]; exact Nat.le_refl _), List.take_of_length_le (by rw [size_list, hn]; exact Nat.le_refl _)]
  have e4 : (k.ahead n p).drop 8 = cmb k.ek n p := by
    unfold Ky.ahead
    rw [show 8 = n.data.toList.length by rw [size_list, hn], List.drop_left]
  unfold Ky.open_
  rw [if_neg (by omega), e1, e2, if_neg (fun h => h rfl), if_neg (by omega), e3, e4, sb_of, cmb_cmb]
/-- Its last byte turned, it is refused. -/
theorem Ky.open_torn (k : Ky) {n : S} (hn : n.size = 8) (p : List UInt8) (c : UInt8) (hc : (k.seal n p).getD (p.length + 23) 0 ≠ c) : k.open_ ((k.seal n p).set (p.length + 23) c) = ([], 80) := by
  have hl := k.seal_length hn p
  have ha := k.ahead_length hn p
  unfold Ky.open_
  rw [List.length_set, hl]
  rw [if_neg (by omega), if_pos ?_]
  have e1 : ((k.seal n p).set (p.length + 23) c).take (p.length + 24 - 16) = k.ahead n p := by
    rw [List.take_set_of_le (by omega), show p.length + 24 - 16 = (k.ahead n p).length by omega]
    unfold Ky.seal
    rw [List.take_left]
  rw [e1]
  intro h
  have h1 := congrArg (fun l => l[15]?) h
  simp only [List.getElem?_drop] at h1
  rw [show p.length + 24 - 16 + 15 = p.length + 23 by omega, List.getElem?_set_self (by omega)] at h1
  have h2 : (k.seal n p)[p.length + 23]? = (k.tag (k.ahead n p))[15]? := by
    unfold Ky.seal
    rw [List.getElem?_append_right (by omega)]
    congr 1; omega
  apply hc
  rw [List.getD_eq_getElem?_getD, h2, h1]
  rfl
theorem Ky.open_short (k : Ky) {s : List UInt8} (h : s.length < 24) : k.open_ s = ([], 80) := by unfold Ky.open_; rw [if_pos h]
end Go.Proofs.Ytakmeipmngeilaa.SE

set_option linter.unusedVariables false
set_option linter.unusedSimpArgs false
set_option linter.unusedSectionVars false
namespace Go.Proofs.Ytakmeipmngeilaa.SE
set_option maxRecDepth 100000
open Go.RowKit K
variable [SH.Tab]

theorem zero8b (w : World) : (zeroValue 81).run Try.prog w = .ok (AR.ba .u8 (fun _ => 0) 8) w := by kernel_rfl
theorem eight_get (n : Nat) {i : Nat} (h : i < 8) : (eight n).getD i 0 = SH.be8 n i := by
  unfold eight
  rw [List.getD_eq_getElem?_getD, List.getElem?_map, List.getElem?_range h]
  rfl
theorem eight_row (n : Nat) : AR.bw .u8 (fun i => ((SH.be8 n i).toNat)) 8 = u8s (eight n) := by
  unfold AR.bw u8s eight
  rw [List.map_map]
  rfl
theorem blk_bytes {w : World} {b : Nat} {l : List UInt8} {t : TypeId} (h : Blk w b t (u8s l)) : BytesIn w Any (.slice (some ⟨b, 0, none⟩) l.length l.length) l := h.bytes trivial (Nat.le_refl _)
set_option maxHeartbeats 1000000 in
theorem bytesOf_any (n : Nat) (hn : n < 18446744073709551616) (w : World) : Calls Try.prog 31 #[.int .u64 (n : Int)] w fun e w' => e = .returned (.string (sb (eight n))) ∧ Fr No w w' := by
  have HN := hid hn; clear hn
  go_enter Try.func31, Try.ntmps31
  go_wp2_with (first
    | ((with_reducible show wpList _ _ _ (⟨_, .alloc 81, _, _, _, _⟩ :: _) _ _); refine wpL_alloc rfl _ rfl _ zero8b (AR.bw .u8 (fun _ => 0) 8) rfl ?_; intro w1 HB1 HF1 HS1)
    | fail)
  obtain ⟨b1, hb1⟩ : ∃ b, w.heap.size = b := ⟨_, rfl⟩
  have HR := hid (show Blk w1 b1 81 (AR.bw .u8 (AR.upto 0 (fun i => (SH.be8 n i).toNat) fun _ => 0) 8) ∧ Fr No w w1 by rw [AR.upto_zero, ← hb1]; exact ⟨HB1.out, HF1.out⟩)
  have HW := hid hb1
  rw [hb1]
  clear HB1 HF1 HS1 hb1
  go_loopw [5] (fun i wr => ∃ m : Nat, m ≤ 8 ∧ i = .int .i64 m ∧ Hid (Blk wr b1 81 (AR.bw .u8 (AR.upto m (fun i => (SH.be8 n i).toNat) fun _ => 0) 8) ∧ Fr No w wr)) (fun i _ => 8 - (intOf i).toNat)
  case atStart => exact ⟨0, by omega, rfl, HR⟩
  case round =>
    clear HR
    obtain ⟨m, hm, rfl, HR⟩ := hrel
    by_cases hlt : m < 8
    · obtain ⟨k, hk⟩ : ∃ k : Nat, 56 - 8 * m = k := ⟨_, rfl⟩
      have hk2 : (56 : Int) - 8 * (m : Int) = (k : Int) := by omega
      have hk56 : (k : Int) ≤ 56 := by omega
      have hv : ((n : Int) / 2 ^ k % 256) = (((SH.be8 n m).toNat : Nat) : Int) := by
        unfold SH.be8
        rw [show 8 * (7 - m) = k by omega, UInt8.toNat_ofNat', Nat.mod_mod]
        simp
      go_wp2_with (first
        | ((with_reducible show wpList _ _ _ (⟨_, .store 5 _ _, _, _, _, _⟩ :: _) _ _); refine AR.wpL_put rfl _ _ _ rfl b1 m (SH.be8 n m).toNat rfl (congrArg (Value.int .u8) hv) _ _ 8 HR.out.1 hlt SH.infoU8 ?_; intro w5 HB5 HF5 HS5)
        | fail)
      have HR' := hid (show Blk w5 b1 81 (AR.bw .u8 (AR.upto (m + 1) (fun i => (SH.be8 n i).toNat) fun _ => 0) 8) ∧ Fr No w w5 by
        rw [← AR.upto_set]
        exact ⟨HB5.out, HR.out.2.trans HF5.out fun i e => .inr (by have := HW.out; have : i = b1 := e; omega)⟩)
      clear HR HB5 HF5 HS5
      go_wp2_with fail
      go_roundw
      case rel => exact ⟨m + 1, by omega, by go_num, HR'⟩
      case measure => simp [intOf]; omega
    · obtain rfl : m = 8 := by omega
      have hB := HR.out.1
      rw [AR.upto_all, eight_row] at hB
      have HBI := hid (blk_bytes hB)
      rw [eight_length] at HBI
      have HF := hid HR.out.2
      clear hB HR
      go_wp2_with (first
        | ((with_reducible show wpList _ _ _ (⟨_, .convert _ 9 _, _, _, _, _⟩ :: _) _ _); refine wpL_stringOf rfl _ _ _ _ rfl _ _ (eight n) rfl HBI.out Try.underlying38 Try.underlying5 Try.underlying9 ?_)
        | fail)
      go_ret
      exact ⟨rfl, HF.out⟩
theorem long_any (n : Int) (h0 : 0 ≤ n) (hn : n ≤ 1000000) (w : World) : Calls Try.prog 15 #[.int .i64 n] w fun e w' => e = .returned (.int .i64 (n + 24)) ∧ w' = w := by
  go_enter Try.func15, Try.ntmps15
  go_wp2_with fail
  go_ret
  refine ⟨?_, rfl⟩
  exact congrArg (fun x => Ending.returned (.int .i64 x)) (by omega)
end Go.Proofs.Ytakmeipmngeilaa.SE

set_option linter.unusedVariables false
set_option linter.unusedSimpArgs false
namespace Go.Proofs.Ytakmeipmngeilaa.SE
set_option maxRecDepth 100000
open Go.RowKit K

theorem str_cells (s : ByteArray) : Go.Lib.strCells s = u8s s.data.toList := rfl
/-- A string's bytes behind an owned row: the block is the old one or a new one. -/
theorem run_append_str {P : Program} {w : World} (base : Nat) (t u ty e : TypeId) (i : TypeInfo) (ht : P.underlying t = some (.slice e)) (hu : P.underlying u = some .string) (hi : P.info? e = some i) (hz : i.zero = some (.int .u8 0)) (hsize : i.size = 1) (hby : i.bytes = 1)
    (v : Value) (n : Nat) (xs : List Value) (hown : w.ownsRow base e 1 v n xs) (s : ByteArray) (h63 : n + s.size ≤ maxLen) (hbytes : n + s.size ≤ 140737488355328) (hbase : base ≤ w.heap.size) :
    ∃ a c w', (Builtin.append_ #[t, u] ty #[v, .string s]).run P w = .ok (.slice a (n + s.size) c) w' ∧ w'.ownsRow base e 1 (.slice a (n + s.size) c) (n + s.size) (xs ++ u8s s.data.toList) ∧ w.grownBy w' v.ownBlock ∧
      ((Value.slice a (n + s.size) c).ownBlock = v.ownBlock ∨ (Value.slice a (n + s.size) c).ownBlock = some w.heap.size) := by
  obtain ⟨v', w', hr, h2, h3, h4⟩ := Go.Lib.run_append_own_string (P := P) w base t u ty e i ht hu hi hz hsize hby v n xs hown s h63 hbytes hbase
  obtain ⟨a, c, rfl, -, -⟩ := own_form h2
  refine ⟨a, c, w', hr, by rw [← str_cells]; exact h2, h3, ?_⟩
  rcases hown.2 with ⟨rfl, h0⟩ | ⟨g, cap, cur, rfl, hbg, hg, hnc, hcm, hcs, htake⟩
  · by_cases hm : s.size = 0
    · have := h4.2 ⟨rfl, hm⟩
      rw [this]; exact .inl rfl
    · have hx := Go.run_append_nil_string (P := P) (w := w) t u ty e i (.int .u8 0) ht hu hi hz s (by omega) (by unfold maxLen at h63; omega) (by rw [hby]; omega)
      rw [hx] at hr
      simp only [Result.ok.injEq, Value.slice.injEq] at hr
      obtain ⟨⟨rfl, -, -⟩, -⟩ := hr
      exact .inr rfl
  · have hcs1 : cur.size = cap := by simpa using hcs
    by_cases hroom : n + s.size ≤ cap
    · have hx := Go.Lib.run_append_room_string (P := P) w t u ty e i ht hu hi hsize g n cap cur hg s hroom (by rw [hcs1]; exact hroom)
      rw [hx] at hr
      simp only [Result.ok.injEq, Value.slice.injEq] at hr
      obtain ⟨⟨rfl, -, -⟩, -⟩ := hr
      exact .inl rfl
    · have hx := Go.Lib.run_append_grow_string (P := P) w t u ty e i (.int .u8 0) ht hu hi hz ⟨g, 0, none⟩ n cap xs (by rw [hsize]; simpa using hown.1) (hown.cells (g := g) rfl) s (by omega) (by unfold maxLen at h63; omega) (by rw [hby]; exact growslice_fits (by omega) (by omega))
      rw [hx] at hr
      simp only [Result.ok.injEq, Value.slice.injEq] at hr
      obtain ⟨⟨rfl, -, -⟩, -⟩ := hr
      exact .inr rfl

theorem run_add_str {a b : ByteArray} (ha : (a.size : Int) ≤ 8388608) (hb : (b.size : Int) ≤ 8388608) {w : World} : (binOp .add 9 (.string a) (.string b)).run Try.prog w = .ok (.string (a ++ b)) w := by
  simp [binOp, run_string_add, *]
theorem exec_addS {op : Oper} {a : Act} (x y : Operand) (u : TypeId) (ho : op.op = .binOp .add 9 x y u) (p q : ByteArray) (hx : a.eval x = .string p) (hy : a.eval y = .string q) (hp : (p.size : Int) ≤ 8388608) (hq : (q.size : Int) ≤ 8388608) (w : World) :
    (execOp a.eval op).run Try.prog w = .ok (.value (.string (p ++ q))) w := by
  unfold execOp
  simp only [ho, hx, hy]
  simp [run_add_str hp hq, eqGuard, Result.andThen]
theorem wp_appendStr {P : Program} {op : Oper} {a : Act} {w : World} {K : Act → World → Prop} {Q : Exit → Act → World → Prop} (s x : Operand) (t u : TypeId) (ho : op.op = .call { callee := .builtin .append, args := #[s, x], argTypes := #[t, u] })
    (base : Nat) (e : TypeId) (i : TypeInfo) (ht : P.underlying t = some (.slice e)) (hu : P.underlying u = some .string) (hi : P.info? e = some i) (hz : i.zero = some (.int .u8 0)) (hsize : i.size = 1) (hby : i.bytes = 1)
    (v : Value) (n : Nat) (xs : List Value) (hv : a.eval s = v) (hown : w.ownsRow base e 1 v n xs) (str : ByteArray) (hx : a.eval x = .string str) (h63 : n + str.size ≤ maxLen) (hbytes : n + str.size ≤ 140737488355328) (hbase : base ≤ w.heap.size)
    (h : ∀ a' cap' w', Hid (w'.ownsRow base e 1 (.slice a' (n + str.size) cap') (n + str.size) (xs ++ u8s str.data.toList)) → Hid (w.grownBy w' v.ownBlock) → Hid ((Value.slice a' (n + str.size) cap').ownBlock = v.ownBlock ∨ (Value.slice a' (n + str.size) cap').ownBlock = some w.heap.size) →
      K (a.put op.dst (.slice a' (n + str.size) cap')) w') : op.wp P a w K Q := by
  obtain ⟨a', c', w', hr, h2, h3, h4⟩ := run_append_str (P := P) (w := w) base t u op.type e i ht hu hi hz hsize hby v n xs hown str h63 hbytes hbase
  unfold Oper.wp execOp
  simp only [ho, resolve, invoke, builtin, Sem.run_bind, Sem.run_pure, Result.andThen_ok, List.map_toArray, List.map_cons, List.map_nil, hv, hx, hr]
  exact h a' c' w' (hid h2) (hid h3) (hid h4)

/-- Block b holds the bytes l, and room for c; what lies just behind its end is marked. -/
def MkB (w : World) (b c : Nat) (l : List UInt8) : Prop := l.length ≤ c ∧ w.heap[b]? = some (.cells (u8s l ++ List.replicate (c - l.length) (Value.int .u8 0)).toArray 5 (c, c + 1))
theorem cell_mk {w : World} {b j : Nat} {cs : Array Value} {t : TypeId} {f : Nat × Nat} (h : w.heap[b]? = some (.cells cs t f)) : w.cell? ⟨b, j, none⟩ = cs[j]? := cell_of_row w b j cs t f h
theorem MkB.cell {w : World} {b c : Nat} {l : List UInt8} (h : MkB w b c l) {j : Nat} (hj : j < l.length) : w.cell? ⟨b, j, none⟩ = some (.int .u8 ((l[j]).toNat : Int)) := by
  rw [cell_mk h.2, List.getElem?_toArray, List.getElem?_append_left (by rw [u8s_length]; exact hj), u8s_get l j hj]
theorem MkB.lt {w : World} {b c : Nat} {l : List UInt8} (h : MkB w b c l) : b < w.heap.size := (Array.getElem?_eq_some_iff.1 h.2).1
theorem MkB.fr {D : Nat → Prop} {w w' : World} {b c : Nat} {l : List UInt8} (h : MkB w b c l) (hf : Fr D w w') (hn : ¬ D b) : MkB w' b c l := ⟨h.1, (hf.block b h.lt hn).trans h.2⟩
theorem MkB.drew {w : World} {b c : Nat} {l : List UInt8} (h : MkB w b c l) : MkB w.drew b c l := h
theorem MkB.bytes {w : World} {b c : Nat} {l : List UInt8} (h : MkB w b c l) : BytesIn w Any (.slice (some ⟨b, 0, none⟩) l.length c) l :=
  ⟨_, _, _, rfl, rfl, h.1, .inr ⟨b, 0, rfl, trivial, h.lt, fun j v hj => by
    have hl : j < l.length := by have := (List.getElem?_eq_some_iff.1 hj).1; simpa [u8s_length] using this
    rw [Nat.zero_add, h.cell hl, ← hj, u8s_get l j hl]⟩⟩
theorem MkB.there {w : World} {b c : Nat} {l : List UInt8} (h : MkB w b c l) {j : Nat} (hj : j < l.length) : w.there b j 1 := by
  intro i hi
  obtain rfl : i = 0 := by omega
  refine ⟨by rw [Nat.add_zero, h.cell hj]; rfl, ?_⟩
  rw [Nat.add_zero]
  unfold World.frozen?
  have h1 := h.1
  simp only [h.2]
  simp
  omega
theorem MkB.set {w : World} {b c : Nat} {l : List UInt8} (h : MkB w b c l) {j : Nat} (hj : j < l.length) (x : UInt8) : MkB (w.setCells b j [.int .u8 (x.toNat : Int)]) b c (l.set j x) := by
  refine ⟨by rw [List.length_set]; exact h.1, ?_⟩
  show (w.setCell ⟨b, j, none⟩ _).heap[b]? = _
  unfold World.setCell
  simp only [Array.getElem?_modify, if_pos, h.2, Option.map_some]
  congr 2
  simp only [Option.isSome_none, Bool.false_eq_true, if_false]
  rw [List.setIfInBounds_toArray, List.set_append_left _ _ (by rw [u8s_length]; exact hj), u8s_set, List.length_set]
/-- A byte is stored into such a block. -/
theorem wp_putM {P : Program} {op : Oper} {a : Act} {w : World} {K : Act → World → Prop} {Q : Exit → Act → World → Prop} (ty : TypeId) (x y : Operand) (ho : op.op = .store ty x y) (b o : Nat) (v : UInt8) (hx : a.eval x = .pointer (some ⟨b, o, none⟩)) (hy : a.eval y = .int .u8 (v.toNat : Int))
    (c : Nat) (l : List UInt8) (hB : MkB w b c l) (hle : o < l.length) (hi : (P.info? ty).map (·.size) = some 1)
    (h : ∀ w', Hid (MkB w' b c (l.set o v)) → Hid (Fr (fun k => k = b) w w') → Hid (w'.heap.size = w.heap.size) → K (a.put op.dst undef) w') : op.wp P a w K Q := by
  have hrun := AR.run_put (P := P) w b o ty (.int .u8 (v.toNat : Int)) rfl (hB.there hle) hi rfl
  unfold Oper.wp execOp
  simp only [ho, hx, hy, Instr.storeAt, Instr.sureAddr, Sem.run_bind, Sem.run_pure, Result.andThen_ok, hrun]
  exact h _ (hid (hB.set hle v)) (hid ((Fr.refl (fun k => k = b) w).setCells b o _ (.inl rfl))) (hid (by simp))
/-- '[]byte(s)': a block of its own. -/
theorem wpL_bytesM {ops : Array Oper} {rest : List Oper} {op : Oper} {a : Act} {w : World} {Q : Exit → Act → World → Prop} (hgd : op.guard = none) (src dst : TypeId) (x : Operand) (ho : op.op = .convert src dst x) (s : ByteArray) (hx : a.eval x = .string s)
    (hs : Try.prog.underlying src = some .string) (hd : Try.prog.underlying dst = some (.slice 5))
    (h : ∀ c w', Hid (MkB w' w.heap.size c s.data.toList) → Hid (Fr No w w') → Hid (w'.heap.size = w.heap.size + 1) → wpList Try.prog ops Q rest (a.put op.dst (.slice (some ⟨w.heap.size, 0, none⟩) s.size c)) w') : wpList Try.prog ops Q (op :: rest) a w := by
  refine wpList_plain hgd fun K hK => ?_
  have hrun := run_bytes_of_string (P := Try.prog) w src dst 5 s hs hd Try.underlying5
  have hge := grownCap_ge w s.size 0 5
  obtain ⟨cp, hcp⟩ : ∃ c, grownCap w s.size 0 5 = c := ⟨_, rfl⟩
  rw [hcp] at hrun hge
  have hrow : bytesRow s cp = (u8s s.data.toList ++ List.replicate (cp - s.data.toList.length) (Value.int .u8 0)).toArray := by
    apply Array.toList_inj.1
    simp [bytesRow, u8s]
  have hsz : (bytesRow s cp).size = cp := by simp [bytesRow]; omega
  rw [hsz, hrow] at hrun
  have h1 := h cp _ (hid ⟨by rw [size_list]; exact hge, heap_alloc_new w.drew _⟩) (hid ((Fr.refl No w).drew.alloc _)) (hid (by simp))
  unfold Oper.wp
  simp [execOp, ho, hx, hrun, Result.andThen]
  exact hK _ _ h1
theorem wpL_stringS {ops : Array Oper} {rest : List Oper} {op : Oper} {a : Act} {w : World} {Q : Exit → Act → World → Prop} (hgd : op.guard = none) (x : Operand) (ho : op.op = .convert 38 9 x) (v : Value) (E : Nat → Prop) (l : List UInt8) (hx : a.eval x = v) (hb : BytesIn w E v l)
    (h : wpList Try.prog ops Q rest (a.put op.dst (.string (sb l))) w) : wpList Try.prog ops Q (op :: rest) a w :=
  wpL_stringOf hgd _ _ 5 x ho v E l hx hb Try.underlying38 Try.underlying5 Try.underlying9 h
/-- An operation, guarded or not, by its value. -/
theorem wpL_valZ {P : Program} {ops : Array Oper} {rest : List Oper} {op : Oper} {a : Act} {w : World} {Q : Exit → Act → World → Prop} (hw : Region.wanted op (yielded ops a.tmps) = true) (v : Value) (hy : (execOp a.eval op).run P w = .ok (.value v) w) (h : wpList P ops Q rest (a.put op.dst v) w) : wpList P ops Q (op :: rest) a w := by
  unfold wpList
  rw [if_pos hw]
  left
  unfold Oper.wp
  rw [hy]
  exact h
theorem neq_s (a b : S) : (a.toList == b.toList) = decide (a.data.toList = b.data.toList) := by
  rw [ByteArray.toList_eq, ByteArray.toList_eq]
  by_cases h : a.data.toList = b.data.toList
  · rw [h]; simp
  · rw [decide_eq_false h]; exact beq_false_of_ne h
end Go.Proofs.Ytakmeipmngeilaa.SE

set_option linter.unusedVariables false
set_option linter.unusedSimpArgs false
set_option linter.unusedSectionVars false
namespace Go.Proofs.Ytakmeipmngeilaa.SE
set_option maxRecDepth 100000
open Go.RowKit K
variable [SH.Tab]

theorem size8 (w : World) : (Go.sizeOf 5).run Try.prog w = .ok 1 w := by kernel_rfl
theorem infoKy : (Try.prog.info? 59).map (·.size) = some 33 := by kernel_rfl
theorem b8_u8s (f : Nat → Nat) (l : List UInt8) (n : Nat) (hl : l.length = n) (h : ∀ i (hi : i < n), (l[i]'(by omega)).toNat = f i) : u8s l = AE.b8 f n := by
  refine List.ext_getElem? fun i => ?_
  unfold AE.b8
  by_cases hi : i < n
  · rw [u8s_get l i (by omega), List.getElem?_map, List.getElem?_range hi]
    simp [h i hi]
  · rw [List.getElem?_eq_none (by rw [u8s_length]; omega), List.getElem?_eq_none (by simp; omega)]
theorem nx_row (n : S) (hn : n.size = 8) (i : Nat) : spl (AE.b8 (fun _ => 0) 16) 0 (u8s (n.data.toList ++ eight i)) = AE.b8 (nx n i) 16 := by
  have hl : (n.data.toList ++ eight i).length = 16 := by rw [List.length_append, eight_length, size_list, hn]
  unfold spl
  rw [List.take_zero, List.nil_append, List.drop_of_length_le (by simp [AE.b8, u8s_length, eight_length, hn]), List.append_nil]
  refine b8_u8s _ _ 16 hl fun j hj => ?_
  unfold nx
  rw [List.getD_eq_getElem?_getD, List.getElem?_eq_getElem (by omega)]
  rfl
theorem ky_enc {w : World} {b : Nat} {k : Ky} (h : Blk w b 59 k.cells) : w.rangeAt b 1 (AE.b8 k.ek 16) := h.range 1 _ (by
  unfold Ky.cells
  rw [List.drop_succ_cons, List.drop_zero, List.take_left])
theorem wrap_u64 (i : Nat) (hi : i < 18446744073709551616) : IntKind.u64.wrap (i : Int) = (i : Int) := by
  show (i : Int) % 18446744073709551616 = i
  omega

set_option maxHeartbeats 1000000 in
theorem streamed_any (k : Ky) (n : S) (hn : n.size = 8) (i : Nat) (hi : i ≤ 140737488355328) (w : World) : Calls Try.prog 65 #[k.val, .string n, .int .i64 (i : Int)] w fun e w' =>
    e = .returned (AE.bk (blkS k.ek n i) 16) ∧ Fr No w w' := by
  have HN := hid hn
  have hii : (i : Int) ≤ 140737488355328 := by omega
  have hwr := wrap_u64 i (by omega)
  clear hn
  go_enter Try.func65, Try.ntmps65
  go_wp2_with (first
    | ((with_reducible show wpList _ _ _ (⟨_, .box 59 _, _, _, _, _⟩ :: _) _ _); refine wpL_box rfl _ _ rfl k.val rfl k.cells rfl ?_; intro w1 HB1 HF1 HS1)
    | ((with_reducible show wpList _ _ _ (⟨_, .alloc 57, _, _, _, _⟩ :: _) _ _); have := HB2; refine wpL_alloc rfl _ rfl _ AE.zero16 (AE.b8 (fun _ => 0) 16) rfl ?_; intro w3 HB3 HF3 HS3)
    | ((with_reducible show wpList _ _ _ (⟨_, .alloc 57, _, _, _, _⟩ :: _) _ _); refine wpL_alloc rfl _ rfl _ AE.zero16 (AE.b8 (fun _ => 0) 16) rfl ?_; intro w2 HB2 HF2 HS2)
    | fail)
  clear this
  obtain ⟨b1, hb1⟩ : ∃ b, w.heap.size = b := ⟨_, rfl⟩
  obtain ⟨b2, hb2⟩ : ∃ b, w1.heap.size = b := ⟨_, rfl⟩
  obtain ⟨b3, hb3⟩ : ∃ b, w2.heap.size = b := ⟨_, rfl⟩
  have HLT := hid (show b1 < b2 ∧ b2 < b3 ∧ w.heap.size = b1 by have := HS1.out; have := HS2.out; omega)
  have HR := hid (show Blk w3 b1 59 k.cells ∧ Blk w3 b2 57 (AE.b8 (fun _ => 0) 16) ∧ Blk w3 b3 57 (AE.b8 (fun _ => 0) 16) ∧ Fr No w w3 by
    rw [← hb1, ← hb2, ← hb3]
    exact ⟨(HB1.out.fr HF2.out id).fr HF3.out id, HB2.out.fr HF3.out id, HB3.out, (HF1.out.trans' HF2.out).trans' HF3.out⟩)
  rw [hb1, hb2, hb3]
  clear HB1 HF1 HS1 HB2 HF2 HS2 HB3 HF3 HS3 hb1 hb2 hb3
  have hold : Facts.hold [] w3.drew := Facts.nil_hold _
  refine wpD_region hold (by kernel_rfl) 7 rfl ?_
  (refine wpD_plain 0 (v := ?_) rfl (by kernel_rfl) (by kernel_rfl) (by kernel_rfl) (fun _ _ _ h => h) (by rfl) ?_ (by assumption) ?_; rotate_left; (intro _w; go_simp; try with_reducible rfl); simp only [Act.put, List.setIfInBounds_toArray, List.set_cons_zero, List.set_cons_succ])
  (refine wpD_plain 1 (v := ?_) rfl (by kernel_rfl) (by kernel_rfl) (by kernel_rfl) (fun _ _ _ h => h) (by rfl) ?_ (by assumption) ?_; rotate_left; (intro _w; go_simp; try with_reducible rfl); simp only [Act.put, List.setIfInBounds_toArray, List.set_cons_zero, List.set_cons_succ])
  (refine wpD_plain 2 (v := ?_) rfl (by kernel_rfl) (by kernel_rfl) (by kernel_rfl) (fun _ _ _ h => h) (by rfl) ?_ (by assumption) ?_; rotate_left; (intro _w; go_simp; try with_reducible rfl); simp only [Act.put, List.setIfInBounds_toArray, List.set_cons_zero, List.set_cons_succ])
  (refine wpD_plain 3 (v := (.int .u64 (i : Int))) rfl (by kernel_rfl) (by kernel_rfl) (by kernel_rfl) (fun _ _ _ h => h) (by rfl) ?_ (by assumption) ?_; (intro _w; go_simp; skip); simp only [Act.put, List.setIfInBounds_toArray, List.set_cons_zero, List.set_cons_succ])
  refine wpD_only 4 [] rfl (by kernel_rfl) (by kernel_rfl) (by rfl) (fun K4 hK4 => ?_)
  refine wp_call _ [_] _ rfl _ [] rfl (fun _ _ => by kernel_rfl) [.int .u64 (i : Int)] rfl ?_
  refine (bytesOf_any i (by omega) _).mono ?_
  rintro e w4 ⟨rfl, hf4⟩
  refine ⟨_, rfl, hK4 _ _ (Facts.nil_hold _) ?_⟩
  have HR4 := hid (show Blk w4 b1 59 k.cells ∧ Blk w4 b2 57 (AE.b8 (fun _ => 0) 16) ∧ Blk w4 b3 57 (AE.b8 (fun _ => 0) 16) ∧ Fr No w w4 from
    ⟨HR.out.1.drew.fr hf4 id, HR.out.2.1.drew.fr hf4 id, HR.out.2.2.1.drew.fr hf4 id, HR.out.2.2.2.drew.trans' hf4⟩)
  clear hK4 K4 HR hf4 hold
  simp only [Act.put, List.setIfInBounds_toArray, List.set_cons_zero, List.set_cons_succ]
  have hold := Facts.nil_hold w4
  have hn8 : (n.size : Int) ≤ 8388608 := by have := HN.out; omega
  have he8 : ((sb (eight i)).size : Int) ≤ 8388608 := by rw [sb_size, eight_length]; decide
  (refine wpD_plain 5 (v := (.string (n ++ sb (eight i)))) rfl (by kernel_rfl) (by kernel_rfl) (by kernel_rfl) (fun _ _ _ h => h) (by rfl) ?_ (by assumption) ?_; (intro _w; exact exec_addS _ _ _ rfl n _ rfl rfl hn8 he8 _w); simp only [Act.put, List.setIfInBounds_toArray, List.set_cons_zero, List.set_cons_succ])
  clear hn8 he8
  refine wpD_only 6 [] rfl (by kernel_rfl) (by kernel_rfl) (by rfl) (fun K6 hK6 => ?_)
  refine wp_copyS _ _ _ _ rfl 5 rfl size8 b3 0 16 16 rfl (n ++ sb (eight i)) rfl 57 _ HR4.out.2.2.1 (n.data.toList ++ eight i) (by
      rw [app_sb, sb_list, List.take_of_length_le (by rw [List.length_append, eight_length, size_list, HN.out]; decide)]) (by rw [List.length_append, eight_length, size_list, HN.out]; simp [AE.b8]) ?_
  intro w5 HB5 HF5 HS5
  refine hK6 _ _ (Facts.nil_hold _) ?_
  clear hK6 K6 hold
  simp only [Act.put, List.setIfInBounds_toArray, List.set_cons_zero, List.set_cons_succ]
  refine wpD_done (by kernel_rfl) ?_ _
  have hB5 := HB5.out
  rw [nx_row n HN.out i] at hB5
  have HR5 := hid (show Blk w5 b1 59 k.cells ∧ Blk w5 b2 57 (AE.b8 (fun _ => 0) 16) ∧ Blk w5 b3 57 (AE.b8 (nx n i) 16) ∧ Fr No w w5 from
    ⟨HR4.out.1.fr HF5.out (fun e => by have := HLT.out; have : b1 = b3 := e; omega), HR4.out.2.1.fr HF5.out (fun e => by have := HLT.out; have : b2 = b3 := e; omega), hB5, HR4.out.2.2.2.trans HF5.out fun j e => .inr (by have := HLT.out; have : j = b3 := e; omega)⟩)
  clear HR4 HB5 HF5 HS5 hB5
  go_wp2_with (first
    | ((with_reducible show wpList _ _ _ (⟨_, .load 57 _, _, _, _, _⟩ :: _) _ _); have := HX6; refine AE.wpL_all rfl _ _ rfl b3 rfl _ (nx n i) 16 _ HR5.out.2.2.1 rfl rfl AE.info16 ?_)
    | ((with_reducible show wpList _ _ _ (⟨_, .load 57 _, _, _, _, _⟩ :: _) _ _); refine wpL_load rfl _ _ rfl b1 1 rfl (AE.b8 k.ek 16) _ (ky_enc HR5.out.1) Try.underlying57 rfl (by simpa [AE.b8] using AE.info16) ?_; have HX6 := hid trivial)
    | fail)
  refine (AE.enc_any k.ek (nx n i) _ k.hek (nx_lt n i)).mono ?_
  rintro e w6 ⟨rfl, hf6⟩
  have HR6 := hid (show Blk w6 b2 57 (AE.b8 (fun _ => 0) 16) ∧ Fr No w w6 from ⟨HR5.out.2.1.fr hf6 id, HR5.out.2.2.2.trans' hf6⟩)
  clear HR5 hf6
  have he : AE.enc k.ek (nx n i) = blkS k.ek n i := rfl
  rw [he]
  go_wp2_with (first
    | ((with_reducible show wpList _ _ _ (⟨_, .store 57 _ _, _, _, _, _⟩ :: _) _ _); refine AE.wpL_whole rfl _ _ _ rfl b2 (blkS k.ek n i) 16 rfl rfl _ _ HR6.out.1 AE.info16 ?_; intro w7 HB7 HF7 HS7)
    | fail)
  refine ret_cell rfl _ rfl HB7.out rfl rfl (by simpa [AE.b8] using AE.info16) rfl ?_
  exact ⟨rfl, HR6.out.2.trans HF7.out fun j e => .inr (by have := HLT.out; have : j = b2 := e; omega)⟩
end Go.Proofs.Ytakmeipmngeilaa.SE
