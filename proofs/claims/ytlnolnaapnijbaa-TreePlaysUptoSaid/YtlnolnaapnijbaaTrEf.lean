/-
  Scans: each, at any depth.
-/
import Derived.Test.YtlnolnaapnijbaaTrEe
namespace Go.Proofs.Ytlnolnaapnijbaa.TR
set_option maxRecDepth 100000
open Go.RowKit K

theorem flats_len_cons (d : Nat) (k : S) (y : PT d) (R : List (S × Kid (d + 1))) : (flats (d + 1) ((k, up y) :: R)).length = (flat d y).length + (flats (d + 1) R).length := by
  rw [flats_cons, List.length_append]; rfl
theorem ent_each (vs : Array Value) (w : World) : (callFunc 71 vs).run Try.prog w = .ok (.enter 71 vs) w := by kernel_rfl
set_option maxHeartbeats 4000000 in
theorem each_any : ∀ (d : Nat) (base : Nat) (t : PT d) (bt bp bm : Nat) (to fr : S) (most : Int) (acc : L) (pv : Value) (w : World), Rep w d t → Fine d t → (∀ g, fp d t g → g < base) → PS base bt bp bm to most acc pv w → acc.length + (flat d t).length ≤ 4398046511104 →
    Calls Try.prog 71 #[val d t, .string fr, vis bt bp bm] w (Eaches base bt bp bm to most acc pv (ge fr (flat d t)) w) := by
  intro d
  induction d with
  | zero => exact fun base t bt bp bm to fr most acc pv w hr hf hlt hp hn => each_leaf base t bt bp bm to fr most acc pv w hr hf hlt hp hn
  | succ d ih =>
    intro base t bt bp bm to fr most acc pv w hr hf hlt hp hn
    obtain ⟨lo, hi, hok⟩ := hf.ok
    have hpos : 1 ≤ t.l.length := hf.two.elim (fun e => by cases e) id
    have HIH := hid ih; have HR := hid hr; have HOK := hid hok; have HP := hid hp; have HN := hid hn; have HF := hid hf; have HLT := hid hlt; have HPS := hid hpos
    have hlm : t.l.length ≤ 8796093021000 := hf.len
    clear ih hr hf hp hn hok hlt hpos
    show Calls Try.prog _ #[.agg #[.pointer none, .pointer (some ⟨t.b, 0, none⟩)], .string fr, .func (.func 72) #[] [Value.pointer (some ⟨bt, 0, none⟩), .pointer (some ⟨bp, 0, none⟩), .pointer (some ⟨bm, 0, none⟩)].toArray] w _
    go_enter Try.func71, Try.ntmps71
    go_wp2_with ((with_reducible show wpList _ _ _ ({ dst := _, op := .box 103 _, type := _, pos := _, after := _, guard := _ } :: _) _ _); refine wpL_box rfl _ _ rfl _ rfl [.pointer none, .pointer (some ⟨t.b, 0, none⟩)] rfl ?_; intro w1 HB1 F1 HS1; have c0 : w1.cell? ⟨w.heap.size, 0, none⟩ = some (.pointer none) := HB1.out.cell 0; have c1 : w1.cell? ⟨w.heap.size, 1, none⟩ = some (.pointer (some ⟨t.b, 0, none⟩)) := HB1.out.cell 1)
    have HR1 : Hid (Rep w1 (d + 1) t) := hid (HR.out.no F1.out)
    obtain ⟨gc, cc, hcv, hc1, hcc1, hcc2, hog, hrange⟩ := node_open HR1.out HPS.out
    have HC1 := hid hcc1
    have HRG := hid hrange
    have HOG := hid hog
    clear hcv hrange hog
    unfold maxLen at hcc2
    go_wp2_with fail
    have hold : Facts.hold [(1, fun w' => w'.cell? ⟨w.heap.size, 1, none⟩ = some (.pointer (some ⟨t.b, 0, none⟩))), (4, fun w' => w'.cell? ⟨t.b, 1, none⟩ = some (.slice (some ⟨gc, 0, none⟩) t.l.length cc)), (6, fun w' => w'.cell? ⟨w.heap.size, 1, none⟩ = some (.pointer (some ⟨t.b, 0, none⟩)))] w1.drew := Facts.cons_hold c1 (Facts.cons_hold hc1 (Facts.cons_hold c1 (Facts.nil_hold _)))
    refine wpD_region hold (by kernel_rfl) 12 rfl ?_
    (refine wpD_plain 0 (v := ?_) rfl (by kernel_rfl) (by kernel_rfl) (by kernel_rfl) (fun _ _ _ h => h) (by rfl) ?_ (by assumption) ?_; rotate_left; (intro _w; go_simp; try with_reducible rfl); simp only [Act.put, List.setIfInBounds_toArray, List.set_cons_zero, List.set_cons_succ])
    (refine wpD_take 1 _ rfl (by kernel_rfl) (by kernel_rfl) (by kernel_rfl) (fun _ _ _ h => h) List.mem_cons_self (by rfl) (v := ?_) ?_ (by assumption) ?_; rotate_left; (intro _w _hw; go_simp; try with_reducible rfl); simp only [Act.put, List.setIfInBounds_toArray, List.set_cons_zero, List.set_cons_succ])
    (refine wpD_plain 2 (v := ?_) rfl (by kernel_rfl) (by kernel_rfl) (by kernel_rfl) (fun _ _ _ h => h) (by rfl) ?_ (by assumption) ?_; rotate_left; (intro _w; go_simp; try with_reducible rfl); simp only [Act.put, List.setIfInBounds_toArray, List.set_cons_zero, List.set_cons_succ])
    (refine wpD_plain 3 (v := ?_) rfl (by kernel_rfl) (by kernel_rfl) (by kernel_rfl) (fun _ _ _ h => h) (by rfl) ?_ (by assumption) ?_; rotate_left; (intro _w; go_simp; try with_reducible rfl); simp only [Act.put, List.setIfInBounds_toArray, List.set_cons_zero, List.set_cons_succ])
    (refine wpD_take 4 _ rfl (by kernel_rfl) (by kernel_rfl) (by kernel_rfl) (fun _ _ _ h => h) (List.mem_cons_of_mem _ List.mem_cons_self) (by rfl) (v := ?_) ?_ (by assumption) ?_; rotate_left; (intro _w _hw; go_simp; try with_reducible rfl); simp only [Act.put, List.setIfInBounds_toArray, List.set_cons_zero, List.set_cons_succ])
    (refine wpD_plain 5 (v := ?_) rfl (by kernel_rfl) (by kernel_rfl) (by kernel_rfl) (fun _ _ _ h => h) (by rfl) ?_ (by assumption) ?_; rotate_left; (intro _w; go_simp; try with_reducible rfl); simp only [Act.put, List.setIfInBounds_toArray, List.set_cons_zero, List.set_cons_succ])
    (refine wpD_take 6 _ rfl (by kernel_rfl) (by kernel_rfl) (by kernel_rfl) (fun _ _ _ h => h) (List.mem_cons_of_mem _ (List.mem_cons_of_mem _ List.mem_cons_self)) (by rfl) (v := ?_) ?_ (by assumption) ?_; rotate_left; (intro _w _hw; go_simp; try with_reducible rfl); simp only [Act.put, List.setIfInBounds_toArray, List.set_cons_zero, List.set_cons_succ])
    (refine wpD_plain 7 (v := ?_) rfl (by kernel_rfl) (by kernel_rfl) (by kernel_rfl) (fun _ _ _ h => h) (by rfl) ?_ (by assumption) ?_; rotate_left; (intro _w; go_simp; try with_reducible rfl); simp only [Act.put, List.setIfInBounds_toArray, List.set_cons_zero, List.set_cons_succ])
    (refine wpD_plain 11 (v := ?_) rfl (by kernel_rfl) (by kernel_rfl) (by kernel_rfl) (fun _ _ _ h => h) (by rfl) ?_ (by assumption) ?_; rotate_left; (intro _w; go_simp; try with_reducible rfl); simp only [Act.put, List.setIfInBounds_toArray, List.set_cons_zero, List.set_cons_succ])
    clear hold
    refine wpD_only 8 [(1, fun w' => w'.cell? ⟨w.heap.size, 1, none⟩ = some (.pointer (some ⟨t.b, 0, none⟩))), (4, fun w' => w'.cell? ⟨t.b, 1, none⟩ = some (.slice (some ⟨gc, 0, none⟩) t.l.length cc))] rfl (by kernel_rfl) (by kernel_rfl) (by rfl) (fun K8 hK8 => ?_)
    refine wp_call (.func 78) _ _ rfl 78 [] rfl (fun vs w => by kernel_rfl) [.pointer (some ⟨t.b, 0, none⟩), .string fr] (by rfl) ?_
    refine (holding_any w1.drew t.b _ _ (keys t.l) (cells t.l) fr (HR1.out.no (Fr.refl No w1).drew).nd HOK.out.rises (by rw [keys_length]; have := HPS.out; omega) (by rw [keys_length]; omega)).mono ?_
    rintro e w2 ⟨j, rfl, hjk, f2⟩
    have hf2 : Fr No w1 w2 := (Fr.refl No w1).drew.trans' f2
    obtain ⟨A, k, (x : PT d), B, hl, hAj, hA, hB, hcA, hokx, hbk, hcB, hklo, hkhi⟩ := hold_split HOK.out hjk
    have HL : Hid (t.l = A ++ (k, up (d := d) x) :: B) := hid hl
    have HAJ := hid hAj
    have HGE : Hid (ge fr (flat (d + 1) t) = ge fr (flats (d + 1) ((k, up (d := d) x) :: B))) := hid (by
      rw [flat_of HL.out, flats_append, ge_append, ge_lt hA, List.nil_append])
    have HFN : Hid (acc.length + (flats (d + 1) ((k, up (d := d) x) :: B)).length ≤ 4398046511104) := hid (by
      have := HN.out
      rw [flat_of HL.out, flats_append, List.length_append] at this
      omega)
    have hjt : j < t.l.length := by rw [hl, ← hAj]; simp
    have hjm : (j : Int) < (t.l.length : Int) := by omega
    have hjm2 : (j : Int) ≤ (t.l.length : Int) := by omega
    have hjc : ¬ (cc = j) := by omega
    have hjle : j ≤ t.l.length := by omega
    have HJT := hid hjt
    have F2 : Hid (Fr No w w2) := hid (F1.out.trans' hf2)
    have hold : Facts.hold [(1, fun w' => w'.cell? ⟨w.heap.size, 1, none⟩ = some (.pointer (some ⟨t.b, 0, none⟩))), (4, fun w' => w'.cell? ⟨t.b, 1, none⟩ = some (.slice (some ⟨gc, 0, none⟩) t.l.length cc))] w2 := Facts.cons_hold (hf2.cell c1 id) (Facts.cons_hold (hf2.cell hc1 id) (Facts.nil_hold _))
    have HRG2 : Hid (∀ A k x B, t.l = A ++ (k, up (d := d) x) :: B → w2.rangeAt gc (A.length * 2) (ptr d x)) := hid (fun A k x B e => hf2.range (HRG.out A k x B e) id)
    refine ⟨_, rfl, hK8 _ _ hold ?_⟩
    clear hjk hl hAj hA hB hcA hokx hbk hcB hklo hkhi f2 hf2 hK8 K8 HRG c0 c1 hc1
    simp only [Act.put, List.setIfInBounds_toArray, List.set_cons_zero, List.set_cons_succ]
    (refine wpD_plain 9 (v := (.slice (some ⟨gc, j * 2, none⟩) (t.l.length - j) (cc - j))) rfl (by kernel_rfl) (by kernel_rfl) (by kernel_rfl) (fun _ _ _ h => h) (by rfl) ?_ (by assumption) ?_; (intro _w; go_simp; skip); simp only [Act.put, List.setIfInBounds_toArray, List.set_cons_zero, List.set_cons_succ])
    (refine wpD_plain 10 (v := ?_) rfl (by kernel_rfl) (by kernel_rfl) (by kernel_rfl) (fun _ _ _ h => h) (by rfl) ?_ (by assumption) ?_; rotate_left; (intro _w; go_simp; try with_reducible rfl); simp only [Act.put, List.setIfInBounds_toArray, List.set_cons_zero, List.set_cons_succ])
    refine wpD_done (by kernel_rfl) ?_ _
    clear hold
    have HR2 : Hid (Rep w2 (d + 1) t) := hid (HR.out.no F2.out)
    have HP2 : Hid (PS base bt bp bm to most acc pv w2) := hid (HP.out.no F2.out)
    have HVR : Hid (∀ wr, Fr (Vs bp pv) w2 wr → Rep wr (d + 1) t ∧ ∀ A k x B, t.l = A ++ (k, up (d := d) x) :: B → wr.rangeAt gc (A.length * 2) (ptr d x)) := hid (fun wr hf => ⟨HR2.out.fr hf (fun g hg e => by have := HLT.out g hg; have := (HP2.out.vs g e).1; omega), fun A k x B e => hf.range (HRG2.out A k x B e) (fun e2 => by have := HLT.out gc (own_fp HOG.out); have := (HP2.out.vs gc e2).1; omega)⟩)
    have HBW : Hid (base ≤ w2.heap.size) := hid (by have := HP2.out.b1; have := HP2.out.t.lt; omega)
    have HW2 := F2.out.size
    have hnj : t.l.length - j ≤ 8796093021000 := by omega
    have hmj : ((t.l.length - j : Nat) : Int) = (t.l.length : Int) - j := by omega
    generalize hm : t.l.length - j = m at *
    have HM := hid hm
    have HMJ := hid hmj
    clear hm hmj
    go_wp2_with fail
    go_loopw [25] (fun q wr => ∃ (N R : List (S × Kid (d + 1))) (acc' : L) (pv' : Value), q = .int .i64 N.length ∧ Hid ((k, up (d := d) x) :: B = N ++ R) ∧ Hid (PS base bt bp bm to most acc' pv' wr) ∧ Hid (Fr (Vs bp pv) w2 wr) ∧ Hid (∀ g, pv'.ownBlock = some g → pv.ownBlock = some g ∨ w2.heap.size ≤ g) ∧ Hid (runS to most acc (ge fr (flat (d + 1) t)) = runS to most acc' (ge fr (flats (d + 1) R))) ∧ Hid (acc'.length + (flats (d + 1) R).length ≤ 4398046511104)) (fun q _ => m - (intOf q).toNat)
    case atStart => exact ⟨[], (k, up (d := d) x) :: B, acc, pv, rfl, hid rfl, HP2, hid (Fr.refl _ _), hid (fun g hg => .inl hg), hid (by rw [HGE.out]), HFN⟩
    case round =>
      obtain ⟨N, R, acc', pv', rfl, HNR, HPr, HFr, HGr, HRun, HAc⟩ := hrel
      have FIN : Hid (∀ (b : Bool) (acc2 : L) (pv2 : Value) (w4 : World), runS to most acc (ge fr (flat (d + 1) t)) = (b, acc2) → PS base bt bp bm to most acc2 pv2 w4 → Fr (Vs bp pv) w2 w4 → (∀ g, pv2.ownBlock = some g → pv.ownBlock = some g ∨ w2.heap.size ≤ g) → Eaches base bt bp bm to most acc pv (ge fr (flat (d + 1) t)) w (.returned (.bool b)) w4) := hid (fun b acc2 pv2 w4 h1 h2 h3 h4 => by
        unfold Eaches
        exact ⟨by rw [h1], pv2, by rw [h1]; exact h2, F2.out.no.trans' h3, fun g hg => (h4 g hg).imp id (fun e => Nat.le_trans F2.out.size e)⟩)
      have hml : m = (N ++ R).length := by
        rw [← HNR.out]
        have := congrArg List.length HL.out
        simp at this ⊢
        have := HM.out; have := HAJ.out
        omega
      have HML := hid hml
      cases R with
      | nil =>
        have hnl : ¬ ((N.length : Int) < (m : Int)) := by have := hml; simp at this; omega
        clear hml
        go_wp2
        go_ret
        have hr := HRun.out
        exact FIN.out true acc' pv' wr hr HPr.out HFr.out HGr.out
      | cons y R =>
        obtain ⟨k1, (y : PT d)⟩ := y
        have hnl : (N.length : Int) < (m : Int) := by have := hml; simp at this; omega
        have hnl2 : (N.length : Int) ≤ 8796093021000 := by omega
        obtain ⟨hrr, hrg⟩ := HVR.out wr HFr.out
        have hty : t.l = (A ++ N) ++ (k1, up (d := d) y) :: R := by rw [HL.out, List.append_assoc]; exact congrArg (A ++ ·) HNR.out
        have HTY := hid hty
        have HRY : Hid (Rep wr d y) := hid (repK_succ.1 (hrr.kids.rep (k1, up (d := d) y) (by rw [hty]; simp)))
        have HFY : Hid (Fine d y) := hid (HF.out.kid hty)
        have HRGy : Hid (wr.rangeAt gc (j * 2 + N.length * 2) (ptr d y)) := hid (by
          have := hrg (A ++ N) k1 y R hty
          rwa [List.length_append, Nat.add_mul, HAJ.out] at this)
        have HLY : Hid (∀ g, fp d y g → g < base) := hid (fun g hg => HLT.out g (.inr ⟨(k1, up (d := d) y), by rw [hty]; simp, hg⟩))
        clear hml hrr hrg hty
        go_wp2_with (first
          | ((with_reducible show wpList _ _ _ ({ dst := _, op := .load 103 _, type := _, pos := _, after := _, guard := _ } :: _) _ _); have := HB5; refine wpL_load rfl _ _ rfl wr.heap.size 0 rfl (ptr d y) _ (HB6'.out.range 0 _ (by rw [List.drop_zero]; exact List.take_length)) rfl rfl (by rw [ptr_length]; exact info_p) ?_)
          | ((with_reducible show wpList _ _ _ ({ dst := _, op := .load 103 _, type := _, pos := _, after := _, guard := _ } :: _) _ _); refine wpL_load rfl _ _ rfl gc (j * 2 + N.length * 2) rfl (ptr d y) _ HRGy.out rfl rfl (by rw [ptr_length]; exact info_p) ?_)
          | ((with_reducible show wpList _ _ _ ({ dst := _, op := .alloc 103, type := _, pos := _, after := _, guard := _ } :: _) _ _); refine wpL_alloc rfl _ rfl _ zero_pt [.pointer none, .pointer none] rfl ?_; intro w5 HB5 F5 HS5)
          | ((with_reducible show wpList _ _ _ ({ dst := _, op := .store 103 _ _, type := _, pos := _, after := _, guard := _ } :: _) _ _); refine wpL_storeV rfl _ _ _ rfl wr.heap.size 0 (.agg (ptr d y).toArray) (ptr d y) rfl rfl rfl _ _ HB5.out (by rw [ptr_length]; simp) (by rw [ptr_length]; exact info_p) (ptr_one d y) ?_; intro w6 HB6 F6 HS6; have HB6' : Hid (Blk w6 wr.heap.size 103 (ptr d y)) := hid (by
              have := HB6.out
              rwa [show spl [.pointer none, .pointer none] 0 (ptr d y) = ptr d y from by unfold spl; rw [ptr_length]; simp] at this)))
        have F6w : Hid (Fr No wr w6) := hid (F5.out.trans (D' := fun k => k = wr.heap.size) F6.out (fun k e => .inr (by rw [e]; exact Nat.le_refl _)))
        refine (HIH.out base y bt bp bm to fr most acc' pv' w6 (HRY.out.no F6w.out) HFY.out HLY.out (HPr.out.no F6w.out) (by have h0 := flats_len_cons d k1 y R; have h1 : acc'.length + (flats (d + 1) ((k1, up (d := d) y) :: R)).length ≤ 4398046511104 := HAc.out; omega)).mono ?_
        rintro e w7 ⟨rfl, pv2, hps, f7, g7⟩
        have hvt := vs_trans HFr.out HGr.out (F6w.out.no.trans' f7) (fun g hg => (g7 g hg).imp id (fun e => Nat.le_trans F6w.out.size e))
        have HP4 := hid hps; have HF4 := hid hvt.1; have HG4 := hid hvt.2
        have hrn : runS to most acc (ge fr (flat (d + 1) t)) = if (runS to most acc' (ge fr (flat d y))).1 then runS to most (runS to most acc' (ge fr (flat d y))).2 (ge fr (flats (d + 1) R)) else runS to most acc' (ge fr (flat d y)) := by
          rw [HRun.out, flats_cons, ge_append, runS_append]; rfl
        have hal := runS_length to most (ge fr (flat d y)) acc'
        have hgl := ge_le fr (flat d y)
        generalize hrs : runS to most acc' (ge fr (flat d y)) = rs at *
        obtain ⟨b, acc2⟩ := rs
        have HRN := hid hrn
        have HAL : Hid (acc2.length + (flats (d + 1) R).length ≤ 4398046511104) := hid (by
          have h0 := flats_len_cons d k1 y R
          have h1 : acc'.length + (flats (d + 1) ((k1, up (d := d) y) :: R)).length ≤ 4398046511104 := HAc.out
          simp only at hal
          omega)
        clear hps f7 g7 hvt hrn hal hgl hrs
        cases b
        · go_wp2
          go_ret
          exact FIN.out false acc2 pv2 w7 (by have := HRN.out; simpa using this) HP4.out HF4.out HG4.out
        · go_wp2
          exact ⟨⟨N ++ [(k1, up (d := d) y)], R, acc2, pv2, by simp, hid (by rw [HNR.out]; simp), HP4, HF4, HG4, hid (by have := HRN.out; simpa using this), HAL⟩, by simp [intOf]; omega⟩
end Go.Proofs.Ytlnolnaapnijbaa.TR
