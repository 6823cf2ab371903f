/-
  Part 15 of the proof: ScW, FtC, ScY, ScZ.
-/
import Derived.Test.YtgbiicipkbpmeaaGreatDoorFe14
set_option linter.unusedSimpArgs false
set_option linter.unusedVariables false
namespace Go.Proofs.YtgbiicipkbpmeaaGreatDoor.SC
set_option maxRecDepth 100000
set_option maxHeartbeats 128000000
open Go.RowKit K BE DN
def bb (f : Set) (n : Nat) : List Value := (List.range n).map fun i => .bool (f i)
@[simp] theorem bb_length (f : Set) (n : Nat) : (bb f n).length = n := by simp [bb]
theorem bb_get (f : Set) {i n : Nat} (h : i < n) : (bb f n)[i]? = some (.bool (f i)) := by simp [bb, h]
theorem bb_one (f : Set) (n : Nat) : ∀ v ∈ bb f n, v.oneCell' = true := by
 intro v hv
 obtain ⟨i, _, rfl⟩ := List.mem_map.1 hv
 rfl
theorem bb_put (f : Set) (n i : Nat) : (bb f n).set i (.bool true) = bb (put f i) n := by
 refine List.ext_getElem? fun j => ?_
 by_cases hj : j < n
 ·rw [bb_get _ hj, List.getElem?_set]
  unfold put
  by_cases e : i = j
  ·subst e; simp [hj]
  ·have e2 : ¬ j = i := fun h => e h.symm
   simp [e, e2, bb_get f hj]
 ·rw [List.getElem?_eq_none (by simp; omega), List.getElem?_eq_none (by simp; omega)]
theorem bb_spl (f g : Set) (n : Nat) : spl (bb f n) 0 (bb g n) = bb g n := by
 unfold spl
 rw [List.take_zero, List.nil_append, Nat.zero_add, bb_length, List.drop_eq_nil_of_le (by simp), List.append_nil]
theorem infoTs : (Tryz.prog.info? 73).map (·.size) = some 40 := by kernel_rfl
theorem infoCs2 : (Tryz.prog.info? 77).map (·.size) = some 20 := by kernel_rfl
theorem infoBool : (Tryz.prog.info? 4).map (·.size) = some 1 := by kernel_rfl
theorem zeroTs : ∀ w, (zeroValue 73).run Tryz.prog w = .ok (.agg (bb none_ 40).toArray) w := fun _ => by kernel_rfl
theorem zeroCs : ∀ w, (zeroValue 77).run Tryz.prog w = .ok (.agg (bb none_ 20).toArray) w := fun _ => by kernel_rfl
theorem zeroAt : ∀ w, (zeroValue 45).run Tryz.prog w = .ok (.agg #[.string ⟨#[]⟩, .slice none 0 0]) w := fun _ => by kernel_rfl
theorem GX.also {X : Nat → Prop} {r : Nat} (h : GX X) : GX (Also X r) := ⟨.inl h.1, .inl h.2.1, .inl h.2.2⟩
theorem Gs.put {w w' : World} {r : Nat} (h : Gs w) (hf : Fr (fun k => k = r) w w') (hl : GX (fun k => k < r)) : Gs w' :=
 h.bb hf hl (fun e => Nat.lt_irrefl _ e)
theorem tyAt_lt {s : Sch} (hk : okS s = true) {n : B} {i : Nat} (h : s.tyAt n = some i) : i < s.tys.length ∧ i < 40 := by
 have := fnd_lt h
 unfold Sch.tn at this
 rw [List.length_map] at this
 have := (okS_b hk).2.1
 omega
theorem clAt_lt {s : Sch} (hk : okS s = true) {n : B} {i : Nat} (h : s.clAt n = some i) : i < s.cls.length ∧ i < 20 := by
 have := fnd_lt h
 unfold Sch.cn at this
 rw [List.length_map] at this
 have := (okS_b hk).2.2
 omega
theorem checkAttrs_any {S : Nat → Prop} (X : Nat → Prop) (b : Nat) (s : Sch) (v : Value) (en : Ent) (w : World) (h : Sx w X b s) (hX : ∀ k, X k → k < w.heap.size) (hx : GX X) (hG : Gs w) (he : EnIn S w v en) (hS : ∀ i, S i → i ≠ b) :
  Calls Tryz.prog 20 #[.pointer (some ⟨b, 0, none⟩), v] w fun e w' => e = .returned (.tuple #[.agg (bb (chkAts s none_ en).1 40).toArray, .int .i64 (chkAts s none_ en).2]) ∧ Sx w' X b s ∧ Fr (fun k => k = b) w w' := by
 obtain ⟨r, hr⟩ : ∃ r, w.heap.size = r := ⟨_, rfl⟩
 have HX := hid (h.also (r := r) (by omega)); have HXB := hid hX; have HR := hid hr; have HGX : Hid (GX (Also X r)) := hid hx.also
 have HG := hid hG; have HE := hid he; have HS := hid hS
 have HGL : Hid (GX (fun k => k < r)) := hid (by rw [← hr]; exact hG.gx)
 have HBR : Hid (b < r) := hid (by have := h.lt; omega)
 have HOK := hid h.ok
 obtain ⟨a, cp, rfl, hcap, hl⟩ := he.form
 obtain ⟨RR, hRR⟩ : ∃ RR, chkAts s none_ en = RR := ⟨_, rfl⟩
 rw [hRR]
 have HRR : Hid (chkAts s none_ (en.drop 0) = RR) := hid hRR
 obtain ⟨n, hn⟩ : ∃ n, en.length = n := ⟨_, rfl⟩
 have HNN := hid hn
 rw [hn] at HE hcap hl ⊢
 have hni : (n : Int) ≤ 140737488351232 := by omega
 clear h hX hx hG he hS hr hRR hn hcap hl
 go_enter Tryz.func20, Tryz.ntmps20
 go_wp2_with (first
  | ((with_reducible refine K.atO (.alloc 73) ?_); refine wpL_alloc rfl _ rfl _ zeroTs (bb none_ 40) rfl ?_; intro w1 HB1 HF1 HS1))
 rw [HR.out] at HB1 ⊢
 have HX1 := hid (HX.out.no HF1.out)
 have HXL : Hid (∀ k, Also X r k → k < w1.heap.size) := hid (also_lt HXB.out (by have := HS1.out; have := HR.out; omega) (by have := HS1.out; omega))
 have HG1 := hid (HG.out.no HF1.out)
 have HFw1 := hid (HF1.out.no (D := fun k => k = b))
 clear HF1 HS1 HX HG
 go_loopw [13] (fun iv wr => ∃ (i : Nat) (f : Set), iv = .int .i64 i ∧ i ≤ n ∧ Hid (Blk wr r 73 (bb f 40)) ∧ Hid (chkAts s f (en.drop i) = RR) ∧ Hid (Sx wr (Also X r) b s ∧ Fr (fun k => k = b) w wr ∧ Gs wr ∧ w1.heap.size ≤ wr.heap.size)) (fun iv _ => n - (intOf iv).toNat)
 case atStart => exact ⟨0, none_, rfl, Nat.zero_le _, HB1, HRR, hid ⟨HX1.out, HFw1.out, HG1.out, Nat.le_refl _⟩⟩
 case round =>
  obtain ⟨i, f, rfl, hi, HB, HT, HI⟩ := hrel
  by_cases hlt : i < n
  ·obtain ⟨at_, hx⟩ : ∃ x, en[i]? = some x := ⟨_, List.getElem?_eq_getElem (by rw [HNN.out]; exact hlt)⟩
   have hlti : (i : Int) < n := by omega
   have hi0 : (0 : Int) ≤ i := by omega
   obtain ⟨g, o, cq, cs, e1, -, -, hr, -, hp⟩ := (EnIn.fr HE.out HI.out.2.1 (fun i hi _ e => HS.out i hi e)).get hx
   rw [HNN.out] at e1
   obtain ⟨rfl, rfl⟩ := K.sj e1
   obtain ⟨u, rfl, hz, hls⟩ := hp
   have HRG := hid hr; have HZ := hid hz; have HLS := hid hls
   have HONE : Hid (∀ v ∈ [Value.string (sb at_.1), u], v.oneCell' = true) := hid (by
    obtain ⟨a, cp, rfl, -⟩ := hls.form
    intro v hv
    simp only [List.mem_cons, List.not_mem_nil, or_false] at hv
    rcases hv with rfl | rfl <;> rfl)
   obtain ⟨hdrop, -⟩ := drop_at hx
   have HT2 := hid HT.out
   rw [hdrop] at HT2
   have HLT := hid hlt
   clear hr hz hls hx hdrop HT hi hlt
   go_wp2_with (first
    | ((with_reducible refine K.atO (.load 45 _) ?_); refine wpL_load rfl _ _ rfl g (o + i * 2) rfl [.string (sb at_.1), u] _ HRG.out rfl rfl infoAt ?_)
    | ((with_reducible refine K.atO (.alloc 45) ?_); refine wpL_alloc rfl _ rfl _ zeroAt _ rfl ?_; intro y2 HB2 HF2 HS2)
    | ((with_reducible refine K.atO (.store 45 _ _) ?_); refine wpL_store rfl _ _ _ rfl wr.heap.size 0 [.string (sb at_.1), u] rfl rfl 45 _ HB2.out (by simp) infoAt HONE.out ?_; intro y3 HB3 HF3 HS3; refine Hid.out ?_))
   have HFR3 : Hid (Fr No wr y3) := hid (HF2.out.trans HF3.out fun k e => .inr (by have e : k = wr.heap.size := e; omega))
   obtain ⟨q, hq⟩ : ∃ q, wr.heap.size = q := ⟨_, rfl⟩
   have HQ := hid hq
   rw [hq] at HB3 ⊢
   have HBK : Hid (Blk y3 q 45 [.string (sb at_.1), u]) := hid HB3.out
   have HBr3 := hid (HB.out.fr HFR3.out id)
   have HX3 := hid (HI.out.1.no HFR3.out)
   have HXL3 := hid (fun k hk => Nat.lt_of_lt_of_le (HXL.out k hk) (Nat.le_trans HI.out.2.2.2 HFR3.out.size))
   clear hq HB3 HB2 HF2 HF3 HS2 HS3
   have c0 : y3.cell? ⟨q, 0, none⟩ = some (.string (sb at_.1)) := HBK.out.cell 0
   refine hid ?_
   go_wp2_with fail
   refine (typeAt_any (Also X r) b s at_.1 y3 HX3.out HXL3.out HZ.out).mono ?_
   rintro e y4 ⟨rfl, hs4, f4⟩
   have HS4 := hid hs4
   have HBr4 := hid (HBr3.out.fr f4 (by show ¬ r = b; have := HBR.out; omega))
   have HBK4 := hid (HBK.out.fr f4 (by show ¬ q = b; have := HQ.out; have := HI.out.1.lt; omega))
   have HFR4 : Hid (Fr (fun k => k = b) wr y4) := hid (HFR3.out.no.trans' f4)
   have HG4 : Hid (Gs y4) := hid ((HI.out.2.2.1.no HFR3.out).bb f4 HGX.out hs4.nx)
   have HQ4 : Hid (w1.heap.size ≤ y4.heap.size) := hid (Nat.le_trans HI.out.2.2.2 HFR4.out.size)
   clear hs4 f4 c0 HX3 HXL3 HBr3 HBK
   cases hat : s.tyAt at_.1 with
   | none =>
    obtain rfl : RR = (none_, 131) := by
     have h := HT2.out
     rw [chkAts, hat] at h
     exact h.symm
    rw [atR_none]
    clear hat
    go_wp2_with (first
     | ((with_reducible refine K.atO (.build 73 _) ?_); refine wpL_valZ rfl (.agg (bb none_ 40).toArray) (by kernel_rfl) ?_)
     | ((with_reducible refine K.atO (.store 73 _ _) ?_); refine wpL_store rfl _ _ _ rfl r 0 (bb none_ 40) rfl rfl 73 _ HBr4.out (by simp) (by rw [bb_length]; exact infoTs) (bb_one _ _) ?_; intro y5 HB5 HF5 HS5; rw [bb_spl] at HB5))
    refine ret_cell2 rfl _ rfl HB5.out rfl rfl (by rw [bb_length]; exact infoTs) rfl ?_
    exact ⟨rfl, (HS4.out.set HF5.out).back.sx, (HI.out.2.1.trans' HFR4.out).trans HF5.out (fun k e => .inr (by have e : k = r := e; have := HR.out; omega))⟩
   | some j =>
    obtain ⟨hj1, hj2⟩ := tyAt_lt HOK.out hat
    rw [atR_some]
    have hji : (j : Int) < 40 := by omega
    have hj0 : (0 : Int) ≤ j := by omega
    have cj : y4.cell? ⟨r, j, none⟩ = some (.bool (f j)) := by rw [HBr4.out.cell, bb_get f hj2]
    obtain ⟨p, hp⟩ : ∃ p, f j = p := ⟨_, rfl⟩
    rw [hp] at cj
    have HAT := hid hat; have HP := hid hp; have HJ := hid (show j < s.tys.length ∧ j < 40 from ⟨hj1, hj2⟩)
    clear hat hp hj1 hj2
    cases p with
    | true =>
     obtain rfl : RR = (none_, 131) := by
      have h := HT2.out
      rw [chkAts, HAT.out] at h
      simp only [HP.out, if_true] at h
      exact h.symm
     go_wp2_with (first
      | ((with_reducible refine K.atO (.build 73 _) ?_); refine wpL_valZ rfl (.agg (bb none_ 40).toArray) (by kernel_rfl) ?_)
      | ((with_reducible refine K.atO (.store 73 _ _) ?_); refine wpL_store rfl _ _ _ rfl r 0 (bb none_ 40) rfl rfl 73 _ HBr4.out (by simp) (by rw [bb_length]; exact infoTs) (bb_one _ _) ?_; intro y5 HB5 HF5 HS5; rw [bb_spl] at HB5))
     refine ret_cell2 rfl _ rfl HB5.out rfl rfl (by rw [bb_length]; exact infoTs) rfl ?_
     exact ⟨rfl, (HS4.out.set HF5.out).back.sx, (HI.out.2.1.trans' HFR4.out).trans HF5.out (fun k e => .inr (by have e : k = r := e; have := HR.out; omega))⟩
    | false =>
     obtain ⟨t, htt⟩ : ∃ t, s.tys[j]? = some t := ⟨_, List.getElem?_eq_getElem HJ.out.1⟩
     have HT3 : Hid ((if chkVals t at_.2 = 0 then chkAts s (put f j) (en.drop (i + 1)) else (none_, chkVals t at_.2)) = RR) := hid (by
      have h := HT2.out
      rw [chkAts, HAT.out] at h
      simp only [HP.out, htt, Bool.false_eq_true, if_false] at h
      exact h)
     obtain ⟨vt, vc, bt, bc, n1, m1, hB, -, htv, -, -, -, -, -, -⟩ := HS4.out
     obtain ⟨tg, to_, tcq, tcs, te, -, -, thr, -, tp⟩ := htv.get htt
     subst te
     obtain ⟨rfl, -⟩ := tp
     obtain ⟨TL, hTL⟩ : ∃ L, s.tys.length = L := ⟨_, rfl⟩
     have d0 : y4.cell? ⟨b, 0, none⟩ = some (.slice (some ⟨tg, to_, none⟩) TL tcq) := by rw [← hTL]; exact hB.cell 0
     have d1 : y4.cell? ⟨q, 1, none⟩ = some u := HBK4.out.cell 1
     have hjl : (j : Int) < (TL : Int) := by have := HJ.out.1; omega
     have HU : Hid (LsIn S y4 u at_.2) := hid (HLS.out.fr HFR4.out (fun i hi _ e => HS.out i hi e))
     have HTHR := hid thr
     clear hB htv thr hTL htt
     go_wp2_with fail
     have hold : Facts.hold [(4, fun w' => w'.cell? ⟨b, 0, none⟩ = some (.slice (some ⟨tg, to_, none⟩) TL tcq)), (7, fun w' => w'.rangeAt tg (to_ + j * 6) (tyV t)), (9, fun w' => w'.cell? ⟨q, 1, none⟩ = some u)] y4.drew := Facts.cons_hold d0 (Facts.cons_hold HTHR.out (Facts.cons_hold d1 (Facts.nil_hold _)))
     refine wpD_region hold (by kernel_rfl) 12 rfl ?_
     (refine K.pl 0 (v := ?_) rfl ?_ ?_; rotate_left; (intro; go_simp; try with_reducible rfl); simp only [K.pu])
     (refine K.pl 1 (v := ?_) rfl ?_ ?_; rotate_left; (intro; go_simp; try with_reducible rfl); simp only [K.pu])
     (refine K.pl 2 (v := ?_) rfl ?_ ?_; rotate_left; (intro; go_simp; try with_reducible rfl); simp only [K.pu])
     (refine K.pl 3 (v := ?_) rfl ?_ ?_; rotate_left; (intro; go_simp; try with_reducible rfl); simp only [K.pu])
     (refine K.pl 5 (v := ?_) rfl ?_ ?_; rotate_left; (intro; go_simp; try with_reducible rfl); simp only [K.pu])
     (refine K.pl 8 (v := ?_) rfl ?_ ?_; rotate_left; (intro; go_simp; try with_reducible rfl); simp only [K.pu])
     (refine K.tk 4 _ rfl K.m0 (v := ?_) ?_ ?_; rotate_left; (intro _ _hw; go_simp; try with_reducible rfl); simp only [K.pu])
     (refine K.pl 6 (v := ?_) rfl ?_ ?_; rotate_left; (intro; go_simp; try with_reducible rfl); simp only [K.pu])
     (refine K.tk 7 _ rfl K.m1 (exec_load _ _ rfl tg (to_ + j * 6) rfl _ _ rfl rfl infoTy) ?_; simp only [K.pu])
     (refine K.tk 9 _ rfl K.m2 (v := ?_) ?_ ?_; rotate_left; (intro _ _hw; go_simp; try with_reducible rfl); simp only [K.pu])
     clear hold
     refine K.on 10 [(4, fun w' => w'.cell? ⟨b, 0, none⟩ = some (.slice (some ⟨tg, to_, none⟩) TL tcq))] rfl (fun K10 hK10 => ?_)
     refine wp_call _ _ _ rfl 47 [] rfl (fun vs w => by kernel_rfl) [.agg (tyV t).toArray, u] (by rfl) ?_
     refine (checkValues_any t u at_.2 y4.drew (LsIn.fr (D := No) HU.out ((Fr.refl No y4).drew) (fun _ _ _ e => e)) (HG4.out.no ((Fr.refl No y4).drew))).mono ?_
     rintro e y5 ⟨rfl, f5⟩
     have HF5 : Hid (Fr No y4 y5) := hid ((Fr.refl No y4).drew.trans' f5)
     have d05 : y5.cell? ⟨b, 0, none⟩ = some (.slice (some ⟨tg, to_, none⟩) TL tcq) := f5.cell (show y4.drew.cell? _ = _ from d0) id
     refine ⟨_, rfl, hK10 _ _ (Facts.cons_hold d05 (Facts.nil_hold _)) ?_⟩
     clear hK10 K10 f5 d0 d1 cj
     simp only [K.pu]
     have hold : Facts.hold [(4, fun w' => w'.cell? ⟨b, 0, none⟩ = some (.slice (some ⟨tg, to_, none⟩) TL tcq))] y5 := Facts.cons_hold d05 (Facts.nil_hold _)
     (refine K.pl 11 (v := ?_) rfl ?_ ?_; rotate_left; (intro; go_simp; try with_reducible rfl); simp only [K.pu])
     clear hold d05
     refine wpD_done (by kernel_rfl) ?_ _
     have HBr5 := hid (HBr4.out.fr HF5.out id)
     have HS5 := hid (HS4.out.no HF5.out)
     have HFR5 : Hid (Fr (fun k => k = b) wr y5) := hid (HFR4.out.trans' HF5.out.no)
     have HG5 := hid (HG4.out.no HF5.out)
     have HQ5 : Hid (w1.heap.size ≤ y5.heap.size) := hid (Nat.le_trans HQ4.out HF5.out.size)
     obtain ⟨E, hE⟩ : ∃ E, chkVals t at_.2 = E := ⟨_, rfl⟩
     rw [hE]
     have HE2 := hid hE
     clear hE
     by_cases h0 : E = 0
     ·subst h0
      have HT4 : Hid (chkAts s (put f j) (en.drop (i + 1)) = RR) := hid (by have h := HT3.out; rw [if_pos HE2.out] at h; exact h)
      go_wp2_with (first
       | ((with_reducible refine K.atO (.store 4 _ _) ?_); refine wpL_setV rfl _ _ _ rfl r j (.bool true) rfl rfl rfl rfl 73 _ HBr5.out (by rw [bb_length]; exact HJ.out.2) infoBool ?_; intro y6 HB6 HF6 HS6; rw [bb_put] at HB6))
      refine ⟨⟨i + 1, put f j, by go_num, HLT.out, HB6, HT4, hid ⟨(HS5.out.set HF6.out).sx, (HI.out.2.1.trans' HFR5.out).trans HF6.out (fun k e => .inr (by have e : k = r := e; have := HR.out; omega)), HG5.out.put HF6.out HGL.out, Nat.le_trans HQ5.out HF6.out.size⟩⟩, ?_⟩
      have := HLT.out
      simp [intOf]; omega
     ·obtain rfl : RR = (none_, E) := by have h := HT3.out; rw [if_neg (by rw [HE2.out]; exact h0), HE2.out] at h; exact h.symm
      have h0b : (E != 0) = true := by rw [bne_iff_ne]; exact h0
      clear h0
      go_wp2_with (first
       | ((with_reducible refine K.atO (.build 73 _) ?_); refine wpL_valZ rfl (.agg (bb none_ 40).toArray) (by kernel_rfl) ?_)
       | ((with_reducible refine K.atO (.store 73 _ _) ?_); refine wpL_store rfl _ _ _ rfl r 0 (bb none_ 40) rfl rfl 73 _ HBr5.out (by simp) (by rw [bb_length]; exact infoTs) (bb_one _ _) ?_; intro y6 HB6 HF6 HS6; rw [bb_spl] at HB6))
      refine ret_cell2 rfl _ rfl HB6.out rfl rfl (by rw [bb_length]; exact infoTs) rfl ?_
      exact ⟨rfl, (HS5.out.set HF6.out).back.sx, (HI.out.2.1.trans' HFR5.out).trans HF6.out (fun k e => .inr (by have e : k = r := e; have := HR.out; omega))⟩
  ·obtain rfl : i = n := by omega
   obtain rfl : RR = (f, 0) := by
    have h := HT.out
    rw [← HNN.out, List.drop_length] at h
    exact h.symm
   have c0 : wr.rangeAt r 0 (bb f 40) := HB.out.range 0 _ (by rw [List.drop_zero, List.take_length])
   go_wp2_with (first
    | ((with_reducible refine K.atO (.load 73 _) ?_); refine wpL_load rfl _ _ rfl r 0 rfl (bb f 40) _ c0 rfl rfl (by rw [bb_length]; exact infoTs) ?_)
    | ((with_reducible refine K.atO (.store 73 _ _) ?_); refine wpL_store rfl _ _ _ rfl r 0 (bb f 40) rfl rfl 73 _ HB.out (by simp) (by rw [bb_length]; exact infoTs) (bb_one _ _) ?_; intro y5 HB5 HF5 HS5; rw [bb_spl] at HB5))
   refine ret_cell2 rfl _ rfl HB5.out rfl rfl (by rw [bb_length]; exact infoTs) rfl ?_
   exact ⟨rfl, (HI.out.1.fr HF5.out (fun k hk => .inl (.inr hk))).less (fun _ hk => .inl hk), HI.out.2.1.trans HF5.out (fun k e => .inr (by have e : k = r := e; have := HR.out; omega))⟩
end Go.Proofs.YtgbiicipkbpmeaaGreatDoor.SC
namespace Go.Proofs.YtgbiicipkbpmeaaGreatDoor.FT
set_option maxRecDepth 100000
set_option maxHeartbeats 128000000
open Go.RowKit K BE DN SC
def Tn (X : Nat → Prop) (b : Nat) (s : Sch) (w : World) : Prop := Sx w X b s ∧ (∀ k, X k → k < w.heap.size) ∧ GM X ∧ Gm w
section
variable {X : Nat → Prop} {b r : Nat} {s : Sch} {w w' : World}
theorem Tn.step (h : Tn X b s w) (hs : Sx w' X b s) (hf : Fr (fun k => k = b) w w') : Tn X b s w' := ⟨hs, fun k hk => Nat.lt_of_lt_of_le (h.2.1 k hk) hf.size, h.2.2.1, h.2.2.2.bb hf h.2.2.1 hs.nx⟩
theorem Tn.no (h : Tn X b s w) (hf : Fr No w w') : Tn X b s w' := ⟨h.1.no hf, fun k hk => Nat.lt_of_lt_of_le (h.2.1 k hk) hf.size, h.2.2.1, h.2.2.2.no hf⟩
theorem Tn.also (h : Tn X b s w) (hr : w.heap.size ≤ r) (hf : Fr No w w') (hr' : r < w'.heap.size) : Tn (Also X r) b s w' :=
 ⟨(h.1.also hr).no hf, also_lt h.2.1 hr' hf.size, ⟨h.2.2.1.1.also, .inl h.2.2.1.2⟩, h.2.2.2.no hf⟩
theorem Tn.set (h : Tn (Also X r) b s w) (hf : Fr (fun k => k = r) w w') (hl : GM (fun k => k < r)) : Tn (Also X r) b s w' :=
 ⟨h.1.fr hf fun k hk => .inl (.inr hk), fun k hk => Nat.lt_of_lt_of_le (h.2.1 k hk) hf.size, h.2.2.1, h.2.2.2.1.put hf hl.1, h.2.2.2.2.imp fun _ e => hf.cell e fun e => by have e : 0 = r := e; have := hl.2; omega⟩
theorem Tn.lt (h : Tn X b s w) : b < w.heap.size := h.1.lt
theorem Sx.back {w : World} (h : Sx w (Also X r) b s) : Sx w X b s := h.less fun _ hk => .inl hk
theorem Sx.set (h : Sx w (Also X r) b s) (hf : Fr (fun k => k = r) w w') : Sx w' (Also X r) b s := h.fr hf fun k hk => .inl (.inr hk)
end
theorem beqI {a b : Int} (h : a = b) : (a == b) = true := by rw [h]; exact beq_self_eq_true b
theorem beqN {a b : Int} (h : ¬ a = b) : (a == b) = false := by rw [beq_eq_false_iff_ne]; exact h
theorem opposite_any (r : Int) (w : World) : Calls Tryz.prog 97 #[.int .i64 r] w fun e w' => e = .returned (.int .i64 (opp r)) ∧ w' = w := by
 by_cases h0 : r = 0
 ·subst h0
  go_enter Tryz.func97, Tryz.ntmps97
  go_wp2
  go_ret
  exact ⟨rfl, rfl⟩
 ·have e0 := beqN h0
  by_cases h1 : r = 1
  ·subst h1
   clear e0 h0
   go_enter Tryz.func97, Tryz.ntmps97
   go_wp2
   go_ret
   exact ⟨rfl, rfl⟩
  ·have e1 := beqN h1
   have HR : Hid (opp r = 2) := hid (by unfold opp; rw [if_neg h0, if_neg h1])
   clear h0 h1
   go_enter Tryz.func97, Tryz.ntmps97
   go_wp2_with fail
   go_ret
   exact ⟨by rw [HR.out]; rfl, rfl⟩
theorem truth_any (v : Bool) (w : World) : Calls Tryz.prog 107 #[.bool v] w fun e w' => e = .returned (.int .i64 (truI v)) ∧ w' = w := by
 cases v
 ·go_enter Tryz.func107, Tryz.ntmps107
  go_wp2
  go_ret
  exact ⟨rfl, rfl⟩
 ·go_enter Tryz.func107, Tryz.ntmps107
  go_wp2
  go_ret
  exact ⟨rfl, rfl⟩
theorem isOrder_any (k o : Int) (w : World) : Calls Tryz.prog 101 #[.int .i64 k, .int .i64 o] w fun e w' => e = .returned (.bool (isOrd k o)) ∧ w' = w := by
 by_cases h5 : k = 5
 ·subst h5
  have HR : Hid (isOrd 5 o = decide (0 ≤ o)) := hid (by unfold isOrd; rw [if_pos rfl])
  go_enter Tryz.func101, Tryz.ntmps101
  go_wp2_with fail
  go_ret
  exact ⟨by rw [HR.out]; rfl, rfl⟩
 ·have e5 := beqN h5
  by_cases h6 : k = 6
  ·subst h6
   have HR : Hid (isOrd 6 o = decide (o ≤ 0)) := hid (by unfold isOrd; rw [if_neg (by decide), if_pos rfl])
   clear e5 h5
   go_enter Tryz.func101, Tryz.ntmps101
   go_wp2_with fail
   go_ret
   exact ⟨by rw [HR.out]; rfl, rfl⟩
  ·have e6 := beqN h6
   have HR : Hid (isOrd k o = (o == 0)) := hid (by
    unfold isOrd
    rw [if_neg h5, if_neg h6]
    by_cases h : o = 0
    ·rw [decide_eq_true h, beqI h]
    ·rw [decide_eq_false h, beqN h])
   clear h5 h6
   go_enter Tryz.func101, Tryz.ntmps101
   go_wp2_with fail
   go_ret
   exact ⟨by rw [HR.out]; rfl, rfl⟩
theorem indexI_any (L : List Int) (g : Nat) (m : Int) (w : World) (hL : w.rangeAt g 0 (L.map fun x => Value.int .i64 x)) (hl : L.length ≤ 100) :
  Calls Tryz.prog 142 #[.slice (some ⟨g, 0, none⟩) L.length L.length, .int .i64 m] w fun e w' => (∃ k : Int, e = .returned (.int .i64 k) ∧ decide (0 ≤ k) = L.contains m ∧ -1 ≤ k ∧ k ≤ 100) ∧ w' = w := by
 obtain ⟨n, hn⟩ : ∃ n, L.length = n := ⟨_, rfl⟩
 rw [hn] at hl ⊢
 have HN := hid hn; have HL := hid hL
 have hni : (n : Int) ≤ 100 := by omega
 clear hn hL
 go_enter Tryz.func142, Tryz.ntmps142
 go_wp2_with fail
 go_loopw [8] (fun iv wr => ∃ (i : Nat), iv = .int .i64 i ∧ i ≤ n ∧ wr = w ∧ Hid ((L.take i).contains m = false)) (fun iv _ => n - (intOf iv).toNat)
 case atStart => exact ⟨0, rfl, Nat.zero_le _, rfl, hid rfl⟩
 case round =>
  obtain ⟨i, rfl, hi, rfl, HI⟩ := hrel
  by_cases hlt : i < n
  ·have hiX : i < L.length := by rw [HN.out]; exact hlt
   obtain ⟨x, hx⟩ : ∃ x, L[i]? = some x := ⟨_, List.getElem?_eq_getElem hiX⟩
   have hxx : L[i] = x := by rw [List.getElem?_eq_getElem hiX] at hx; exact Option.some.inj hx
   have hlti : (i : Int) < n := by omega
   have hi0 : (0 : Int) ≤ i := by omega
   have d0 : wr.cell? ⟨g, i, none⟩ = some (.int .i64 x) := by have := HL.out i (.int .i64 x) (by rw [List.getElem?_map, hx]; rfl); simpa using this
   have HX : Hid (L[i]? = some x) := hid hx
   have HT : Hid (L.take (i + 1) = L.take i ++ [x]) := hid (by rw [List.take_succ_eq_append_getElem hiX, hxx])
   have HLT := hid hlt
   clear hx hxx hlt hiX
   cases hq : (m == x) with
   | true =>
    have HQ : Hid (m = x) := hid (by simpa using hq)
    go_wp2_with fail
    go_ret
    refine ⟨⟨i, rfl, ?_, by omega, by omega⟩, rfl⟩
    rw [decide_eq_true hi0, HQ.out]
    exact (List.contains_iff_mem.2 (List.mem_of_getElem? HX.out)).symm
   | false =>
    have HQ := hid hq
    go_wp2_with fail
    refine ⟨⟨i + 1, by go_num, HLT.out, by trivial, hid ?_⟩, ?_⟩
    ·rw [HT.out, List.contains_append, HI.out]
     simpa using HQ.out
    ·have := HLT.out
     simp [intOf]; omega
  ·obtain rfl : i = n := by omega
   go_wp2_with fail
   go_ret
   refine ⟨⟨-1, rfl, ?_, by omega, by omega⟩, rfl⟩
   have h1 := HI.out
   rw [List.take_of_length_le (by rw [HN.out]; exact Nat.le_refl _)] at h1
   rw [h1]
   rfl
theorem containsI_any (L : List Int) (g : Nat) (m : Int) (w : World) (hL : w.rangeAt g 0 (L.map fun x => Value.int .i64 x)) (hl : L.length ≤ 100) :
  Calls Tryz.prog 98 #[.slice (some ⟨g, 0, none⟩) L.length L.length, .int .i64 m] w fun e w' => e = .returned (.bool (L.contains m)) ∧ w' = w := by
 have H := hid (indexI_any L g m w hL hl)
 obtain ⟨n, hn⟩ : ∃ n, L.length = n := ⟨_, rfl⟩
 rw [hn] at H ⊢
 obtain ⟨R, hR⟩ : ∃ R, L.contains m = R := ⟨_, rfl⟩
 rw [hR] at H ⊢
 clear hL hl hn hR
 go_enter Tryz.func98, Tryz.ntmps98
 go_wp2_with fail
 refine H.out.mono ?_
 rintro e w' ⟨⟨k, rfl, hk, k1, k2⟩, rfl⟩
 have HK := hid hk
 clear hk
 go_wp2_with fail
 go_ret
 exact ⟨by rw [← HK.out]; rfl, rfl⟩
def sjV (b : Nat) (ve : Value) (lv : Int) : List Value := [.pointer (some ⟨b, 0, none⟩), ve, .int .i64 lv]
theorem tyN_none {s : Sch} {n : B} (h : s.tyAt n = none) : tyN s n = none := by unfold tyN; rw [h]; rfl
theorem tyN_at {s : Sch} {n : B} {i : Nat} (h : s.tyAt n = some i) : tyN s n = some (tyOf s n) := tyN_of h (tyAt_tys h)
theorem hasSyn_any (X : Nat → Prop) (b : Nat) (s : Sch) (n : B) (ve : Value) (lv : Int) (L : List Int) (g : Nat) (w : World) (h : Tn X b s w) (hz : Sz n) (hL : w.rangeAt g 0 (L.map fun x => Value.int .i64 x)) (hg : g ≠ b) (hl : L.length ≤ 100) :
  Calls Tryz.prog 62 #[.agg (sjV b ve lv).toArray, .string (sb n), .slice (some ⟨g, 0, none⟩) L.length L.length] w fun e w' => e = .returned (.bool (hasSyn s n L)) ∧ Sx w' X b s ∧ Fr (fun k => k = b) w w' := by
 have HX := hid h; have HZ := hid hz; have HL := hid hL; have HG := hid hg; have HLL := hid hl
 obtain ⟨R, hR⟩ : ∃ R, hasSyn s n L = R := ⟨_, rfl⟩
 have HR := hid hR
 rw [hR]
 clear h hz hL hg hl hR
 go_enter Tryz.func62, Tryz.ntmps62
 go_wp2_with (first
  | ((with_reducible refine K.atO (.box 93 _) ?_); refine wpL_box rfl _ _ rfl _ rfl (sjV b ve lv) rfl ?_; intro w1 HB1 HF1 HS1; refine Hid.out ?_))
 obtain ⟨p, hp⟩ : ∃ p, w.heap.size = p := ⟨_, rfl⟩
 rw [hp] at HB1 ⊢
 have c0 : w1.cell? ⟨p, 0, none⟩ = some (.pointer (some ⟨b, 0, none⟩)) := HB1.out.cell 0
 have HX1 := hid (HX.out.no HF1.out)
 clear hp HS1
 refine hid ?_
 go_wp2_with fail
 refine (type_any X b s n w1 HX1.out.1 HX1.out.2.1 HZ.out).mono ?_
 rintro e w2 ⟨rfl, hs2, f2⟩
 have HS2 := hid hs2.sx
 have HF2 : Hid (Fr (fun k => k = b) w w2) := hid (HF1.out.no.trans' f2)
 clear hs2 f2 c0
 cases hat : s.tyAt n with
 | none =>
  have HRN : Hid (false = R) := hid (by rw [← HR.out]; unfold hasSyn; rw [tyN_none hat])
  have e1 : (none : Option Nat).isSome = false := rfl
  rw [e1]
  clear hat e1
  go_wp2_with (first
   | ((with_reducible refine K.atO (.alloc 53) ?_); refine wpL_alloc rfl _ rfl _ zeroTy _ rfl ?_; intro w3 HB3 HF3 HS3)
   | ((with_reducible refine K.atO (.store 53 _ _) ?_); refine wpL_store rfl _ _ _ rfl w2.heap.size 0 (tyV (tyOf s n)) rfl rfl 53 _ HB3.out (by simp [tyV]) infoTy (oneTy _) ?_; intro w4 HB4 HF4 HS4))
  go_ret
  have hf4 : Fr No w2 w4 := HF3.out.trans HF4.out (fun k e => .inr (by have e : k = w2.heap.size := e; omega))
  exact ⟨by rw [← HRN.out]; rfl, HS2.out.no hf4, HF2.out.trans' hf4.no⟩
 | some i =>
  have HRN : Hid (L.contains (tyOf s n).syn = R) := hid (by rw [← HR.out]; unfold hasSyn; rw [tyN_at hat])
  have e1 : (some i).isSome = true := rfl
  rw [e1]
  clear hat e1
  go_wp2_with (first
   | ((with_reducible refine K.atO (.alloc 53) ?_); refine wpL_alloc rfl _ rfl _ zeroTy _ rfl ?_; intro w3 HB3 HF3 HS3)
   | ((with_reducible refine K.atO (.store 53 _ _) ?_); refine wpL_store rfl _ _ _ rfl w2.heap.size 0 (tyV (tyOf s n)) rfl rfl 53 _ HB3.out (by simp [tyV]) infoTy (oneTy _) ?_; intro w4 HB4 HF4 HS4; refine Hid.out ?_))
  have HF4' : Hid (Fr No w2 w4) := hid (HF3.out.trans HF4.out (fun k e => .inr (by have e : k = w2.heap.size := e; omega)))
  have HB4' : Hid (Blk w4 w2.heap.size 53 (tyV (tyOf s n))) := hid HB4.out
  obtain ⟨r, hr⟩ : ∃ r, w2.heap.size = r := ⟨_, rfl⟩
  rw [hr] at HB4' ⊢
  have c1 : w4.cell? ⟨r, 1, none⟩ = some (.int .i64 (tyOf s n).syn) := HB4'.out.cell 1
  have HL4 := hid ((HF2.out.trans' HF4'.out.no).range HL.out HG.out)
  clear hr HB3 HF3 HS3 HB4 HF4 HS4
  refine hid ?_
  go_wp2_with fail
  refine (containsI_any L g (tyOf s n).syn w4 HL4.out HLL.out).mono ?_
  rintro e w5 ⟨rfl, rfl⟩
  rw [HRN.out]
  clear c1
  go_wp2_with fail
  go_ret
  exact ⟨rfl, HS2.out.no HF4'.out, HF2.out.trans' HF4'.out.no⟩
end Go.Proofs.YtgbiicipkbpmeaaGreatDoor.FT
namespace Go.Proofs.YtgbiicipkbpmeaaGreatDoor.SC
set_option maxRecDepth 100000
set_option maxHeartbeats 128000000
open Go.RowKit K BE DN
theorem rCl_at : ∀ (l seen : List Cl) (tn : List B) (k : Nat) (c : Cl), rCl tn seen l = true → l[k]? = some c → typ c.nm = true ∧ (0 ≤ c.kind ∧ c.kind ≤ 2) ∧ supOk (seen ++ l.take k) c = true ∧ has tn c.must = true ∧ has tn c.may = true
 | [], _, _, k, c, _, h => by simp at h
 | d :: r, seen, tn, 0, c, h, hc => by
  obtain rfl : d = c := by simpa using hc
  simp only [rCl, newN, Bool.and_eq_true, decide_eq_true_eq] at h
  rw [List.take_zero, List.append_nil]
  exact ⟨h.1.1.1.1.1.1, h.1.1.1.1.2, h.1.1.1.2, h.1.1.2, h.1.2⟩
 | d :: r, seen, tn, k + 1, c, h, hc => by
  simp only [rCl, Bool.and_eq_true] at h
  have := rCl_at r (seen ++ [d]) tn k c h.2 (by simpa using hc)
  rwa [List.append_assoc, List.singleton_append, ← List.take_succ_cons] at this
theorem low_nil {n : B} (h : low n = []) : n = [] := List.eq_nil_of_length_eq_zero (by rw [← low_length n, h]; rfl)
theorem fnd_empty {s : Sch} (hk : okS s = true) {n : B} (h : n = []) : s.clAt n = none := by
 subst h
 unfold Sch.clAt fnd
 rw [List.findIdx?_eq_none_iff]
 intro m hm
 obtain ⟨c, hc, rfl⟩ := List.mem_map.1 hm
 obtain ⟨k, hk2⟩ := List.mem_iff_getElem?.1 hc
 have := (rCl_at _ _ _ k c (okS_parts hk).2 hk2).1
 rw [beq_eq_false_iff_ne]
 intro e
 have h0 : low ([] : B) = [] := rfl
 rw [h0] at e
 rw [low_nil e] at this
 cases this
theorem sup_lt {s : Sch} (hk : okS s = true) {k j : Nat} (h : supAt s k = some j) : j < k := by
 unfold supAt at h
 cases hc : s.cls[k]? with
 | none => rw [hc] at h; cases h
 | some c =>
  rw [hc, Option.bind_some] at h
  have hs := (rCl_at _ _ _ k c (okS_parts hk).2 hc).2.2.1
  rw [List.nil_append] at hs
  unfold supOk at hs
  split at hs
  ·rename_i he
   rw [fnd_empty hk he] at h
   cases h
  ·split at hs
   ·cases hs
   ·rename_i i hi
    have hlt := fnd_lt hi
    have hki : s.clAt c.sup = some i := by
     unfold Sch.clAt Sch.cn
     have e : s.cls.map (·.nm) = (s.cls.take k).map (·.nm) ++ (s.cls.drop k).map (·.nm) := by rw [← List.map_append, List.take_append_drop]
     unfold fnd at hi ⊢
     rw [e, List.findIdx?_append, hi]
     rfl
    rw [hki] at h
    cases h
    rw [List.length_map, List.length_take] at hlt
    omega
theorem lineF_more {s : Sch} (hk : okS s = true) : ∀ (f g k : Nat), k ≤ f → k ≤ g → lineF s f k = lineF s g k
 | 0, 0, k, _, _ => rfl
 | 0, g + 1, k, h, _ => by
  obtain rfl : k = 0 := by omega
  rw [lineF, lineF]
  cases hs : supAt s 0 with
  | none => rfl
  | some j => have := sup_lt hk hs; omega
 | f + 1, 0, k, _, h => by
  obtain rfl : k = 0 := by omega
  rw [lineF, lineF]
  cases hs : supAt s 0 with
  | none => rfl
  | some j => have := sup_lt hk hs; omega
 | f + 1, g + 1, k, h1, h2 => by
  rw [lineF, lineF]
  cases hs : supAt s k with
  | none => rfl
  | some j =>
   have := sup_lt hk hs
   simp only
   rw [lineF_more hk f g j (by omega) (by omega)]
theorem line_eq {s : Sch} (hk : okS s = true) (k : Nat) : line s k = k :: match supAt s k with | none => [] | some j => line s j := by
 unfold line
 rw [lineF_more hk k (k + 1) k (Nat.le_refl _) (by omega), lineF]
 cases hs : supAt s k with
 | none => rfl
 | some j =>
  have := sup_lt hk hs
  simp only
  rw [lineF_more hk k j j (by omega) (Nat.le_refl _)]
def mL (a o : Value) : Nat := match o with | .bool true => (intOf a).toNat + 1 | _ => 0
theorem mL_t (k : Nat) : mL (.int .i64 (k : Int)) (.bool true) = k + 1 := by simp [mL, intOf]
theorem mL_f (a : Value) : mL a (.bool false) = 0 := rfl
theorem addLine_any (X : Nat → Prop) (b r : Nat) (s : Sch) (f0 : Set) (k0 : Nat) (w : World) (h : Sx w X b s) (hX : ∀ k, X k → k < w.heap.size) (hr : X r) (hB : Blk w r 77 (bb f0 20)) (hk : k0 < s.cls.length) :
  Calls Tryz.prog 50 #[.pointer (some ⟨b, 0, none⟩), .pointer (some ⟨r, 0, none⟩), .int .i64 (k0 : Int)] w fun e w' => e = .returned (.tuple #[]) ∧ Blk w' r 77 (bb (puts f0 (line s k0)) 20) ∧ Sx w' X b s ∧ Fr (fun i => i = b ∨ i = r) w w' := by
 have HX := hid h; have HXL := hid hX; have HXR := hid hr; have HB := hid hB; have HK := hid hk
 have HOK := hid h.ok
 have HNE : Hid (¬ r = b) := hid (fun e => h.nx (by rw [← e]; exact hr))
 obtain ⟨R, hR⟩ : ∃ R, puts f0 (line s k0) = R := ⟨_, rfl⟩
 rw [hR]
 have HR := hid hR
 clear h hX hr hB hk hR
 go_enter Tryz.func50, Tryz.ntmps50
 go_wp2_with fail
 go_loopw [2, 6] (fun av ov wr => ∃ (k : Nat) (o : Bool) (f : Set), av = .int .i64 (k : Int) ∧ ov = .bool o ∧ Hid (o = true → k < s.cls.length ∧ puts f (line s k) = R) ∧ Hid (o = false → f = R) ∧ Hid (Blk wr r 77 (bb f 20) ∧ Sx wr X b s ∧ Fr (fun i => i = b ∨ i = r) w wr)) (fun av ov _ => mL av ov)
 case atStart => exact ⟨k0, true, f0, rfl, rfl, hid (fun _ => ⟨HK.out, HR.out⟩), hid (fun e => by cases e), hid ⟨HB.out, HX.out, Fr.refl _ _⟩⟩
 case round =>
  obtain ⟨k, o, f, rfl, rfl, HT, HF, HI⟩ := hrel
  cases o with
  | true =>
   obtain ⟨hkl, hp⟩ := HT.out rfl
   obtain ⟨c, hc⟩ : ∃ c, s.cls[k]? = some c := ⟨_, List.getElem?_eq_getElem hkl⟩
   have hk20 : k < 20 := by have := (okS_b HOK.out).2.2; omega
   have hki : (k : Int) < 20 := by omega
   have hk0 : (0 : Int) ≤ k := by omega
   obtain ⟨vt, vc, d, tm, cm, hSB, -, -, hcl, -, -⟩ := HI.out.2.1
   obtain ⟨g, q, cq, cs, e1, hO, hgl, hrr, -, hpp⟩ := hcl.get hc
   subst e1
   obtain ⟨v1, v2, rfl, -, hz, -⟩ := hpp
   have HZ := hid hz
   obtain ⟨L, hL⟩ : ∃ L, s.cls.length = L := ⟨_, rfl⟩
   have hkL : (k : Int) < (L : Int) := by omega
   have HPP : Hid (puts (put f k) (match supAt s k with | none => [] | some j => line s j) = R) := hid (by rw [← hp, line_eq HOK.out k]; rfl)
   have HSUP : Hid (supAt s k = s.clAt c.sup) := hid (by unfold supAt; rw [hc]; rfl)
   have HHB := hid (show k < (bb f 20).length by rw [bb_length]; exact hk20)
   have HC1 : Hid (∀ w', Fr (fun i => i = r) wr w' → w'.cell? ⟨b, 1, none⟩ = some (.slice (some ⟨g, q, none⟩) L cq) ∧ w'.cell? ⟨g, q + k * 5 + 2, none⟩ = some (.string (sb c.sup))) := hid (fun w' hf => by
    refine ⟨hf.cell (by rw [← hL]; exact hSB.cell 1) (fun e => HNE.out e.symm), hf.cell (hrr 2 _ rfl) (fun e => ?_)⟩
    exact hO.1 (by have e : g = r := e; rw [e]; exact HXR.out))
   clear hkl hp hc hk20 hSB hcl hrr hO hgl hz hL HT HF
   go_wp2_with (first
    | ((with_reducible refine K.atO (.store 4 _ _) ?_); refine wpL_setV rfl _ _ _ rfl r k (.bool true) rfl rfl rfl rfl 77 _ HI.out.1 HHB.out infoBool ?_; intro w2 HB2 HF2 HS2; rw [bb_put] at HB2; refine Hid.out ?_))
   obtain ⟨c1, c2⟩ := HC1.out w2 HF2.out
   have HX2 : Hid (Sx w2 X b s) := hid (HI.out.2.1.fr HF2.out (fun i e => .inl (by have e : i = r := e; rw [e]; exact HXR.out)))
   have HFR2 : Hid (Fr (fun i => i = b ∨ i = r) w w2) := hid (HI.out.2.2.trans' (HF2.out.mono (fun i e => .inr e)))
   have HXL2 : Hid (∀ i, X i → i < w2.heap.size) := hid (fun i hi => Nat.lt_of_lt_of_le (HXL.out i hi) HFR2.out.size)
   clear HC1 HF2 HS2
   refine hid ?_
   go_wp2_with fail
   refine (classAt_any X b s c.sup w2 HX2.out HXL2.out HZ.out).mono ?_
   rintro e w3 ⟨rfl, hs3, f3⟩
   have HS3 := hid hs3.sx
   have HB3 := hid (HB2.out.fr f3 HNE.out)
   have HFR3 : Hid (Fr (fun i => i = b ∨ i = r) w w3) := hid (HFR2.out.trans' (f3.mono (fun i e => .inl e)))
   clear hs3 f3 c1 c2
   cases hca : s.clAt c.sup with
   | none =>
    have HP2 : Hid (put f k = R) := hid (by have h := HPP.out; rw [HSUP.out, hca] at h; exact h)
    rw [atR_none]
    clear hca
    go_wp2_with fail
    refine ⟨⟨0, false, put f k, rfl, rfl, hid (fun e => by cases e), hid (fun _ => HP2.out), hid ⟨HB3.out, HS3.out, HFR3.out⟩⟩, ?_⟩
    show mL _ (.bool false) < mL _ (.bool true)
    rw [mL_f, mL_t]; omega
   | some j =>
    have hj := (clAt_lt HOK.out hca).1
    have hjk : j < k := sup_lt HOK.out (by rw [HSUP.out, hca])
    have HP2 : Hid (j < s.cls.length ∧ puts (put f k) (line s j) = R ∧ j < k) := hid (by have h := HPP.out; rw [HSUP.out, hca] at h; exact ⟨hj, h, hjk⟩)
    rw [atR_some]
    clear hca hj hjk
    go_wp2_with fail
    refine ⟨⟨j, true, put f k, rfl, rfl, hid (fun _ => ⟨HP2.out.1, HP2.out.2.1⟩), hid (fun e => by cases e), hid ⟨HB3.out, HS3.out, HFR3.out⟩⟩, ?_⟩
    show mL _ (.bool true) < mL _ (.bool true)
    have := HP2.out.2.2
    simp only [mL, intOf, Array.getD_eq_getD_getElem?]
    simp
    omega
  | false =>
   have HFR := hid (HF.out rfl)
   go_wp2_with fail
   go_end0
   refine ⟨rfl, ?_, HI.out.2.1, HI.out.2.2⟩
   have := HI.out.1
   rw [HFR.out] at this
   exact this
theorem idx_find {α : Type} (X : List α) (q : α → Bool) : (∃ i x, idxI X q = (i : Nat) ∧ X[i]? = some x ∧ X.find? q = some x) ∨ (idxI X q = -1 ∧ X.find? q = none) := by
 unfold idxI
 cases h : X.findIdx? q with
 | none =>
  rw [List.findIdx?_eq_none_iff] at h
  exact .inr ⟨rfl, List.find?_eq_none.2 fun x hx => by rw [h x hx]; decide⟩
 | some i =>
  rw [List.findIdx?_eq_some_iff_getElem] at h
  obtain ⟨hl, e, hb⟩ := h
  obtain ⟨x, hx⟩ : ∃ x, X[i]? = some x := ⟨_, List.getElem?_eq_getElem hl⟩
  have ex : X[i] = x := by rw [List.getElem?_eq_getElem hl] at hx; exact Option.some.inj hx
  rw [ex] at e
  refine .inl ⟨i, x, rfl, hx, ?_⟩
  have e1 : X.find? q = (X.take i ++ X.drop i).find? q := by rw [List.take_append_drop]
  rw [e1, (drop_at hx).1, List.find?_append]
  have : (X.take i).find? q = none := List.find?_eq_none.2 fun y hy => by
   obtain ⟨j, hj, rfl⟩ := List.mem_take_iff_getElem.1 hy
   exact hb j (by omega)
  rw [this, List.find?_cons_of_pos e]
  rfl
theorem isOC_any (X : Nat → Prop) (b p : Nat) (s : Sch) (n : B) (u : Value) (w : World) (hp : Blk w p 28 [.pointer (some ⟨b, 0, none⟩)]) (h : Sx w X b s) (hX : ∀ k, X k → k < w.heap.size) (hz : Sz n) :
  Calls Tryz.prog 48 #[.agg #[.string (sb n), u], .pointer (some ⟨p, 0, none⟩)] w fun e w' => e = .returned (.bool (decide (s.tyAt n = some 0))) ∧ Sx w' X b s ∧ Fr (fun k => k = b) w w' := by
 have HP := hid hp; have HX := hid h; have HXL := hid hX; have HZ := hid hz
 clear hp h hX hz
 go_enter Tryz.func48, Tryz.ntmps48
 go_wp2_with (first
  | ((with_reducible refine K.atO (.box 45 _) ?_); refine wpL_box rfl _ _ rfl _ rfl [.string (sb n), u] rfl ?_; intro w1 HB1 HF1 HS1; refine Hid.out ?_))
 obtain ⟨g, hg⟩ : ∃ g, w.heap.size = g := ⟨_, rfl⟩
 rw [hg] at HB1 ⊢
 clear hg
 have c0 : w1.cell? ⟨g, 0, none⟩ = some (.string (sb n)) := HB1.out.cell 0
 have cp : w1.cell? ⟨p, 0, none⟩ = some (.pointer (some ⟨b, 0, none⟩)) := (HP.out.fr HF1.out id).cell 0
 refine hid ?_
 go_wp2_with fail
 refine (typeAt_any X b s n w1 (HX.out.no HF1.out) (fun k hk => Nat.lt_of_lt_of_le (HXL.out k hk) HF1.out.size) HZ.out).mono ?_
 rintro e w2 ⟨rfl, hs2, f2⟩
 have HS2 := hid hs2; have HF2 : Hid (Fr (fun k => k = b) w w2) := hid (HF1.out.no.trans' f2)
 clear hs2 f2 c0 cp
 cases hat : s.tyAt n with
 | none =>
  have HR : Hid (decide (s.tyAt n = some 0) = false) := hid (by rw [hat]; rfl)
  rw [atR_none]
  clear hat
  go_wp2_with fail
  go_ret
  exact ⟨by rw [HR.out]; rfl, HS2.out.sx, HF2.out⟩
 | some i =>
  have HR : Hid (decide (s.tyAt n = some 0) = decide (i = 0)) := hid (by rw [hat]; exact decide_eq_decide.2 (by simp))
  rw [atR_some]
  clear hat
  by_cases hi : i = 0
  ·subst hi
   go_wp2_with fail
   go_ret
   exact ⟨by rw [HR.out]; rfl, HS2.out.sx, HF2.out⟩
  ·have hib : ((i : Int) == 0) = false := by rw [beq_eq_false_iff_ne]; omega
   have HI := hid hi
   clear hi
   go_wp2_with fail
   go_ret
   exact ⟨by rw [HR.out, decide_eq_false HI.out]; rfl, HS2.out.sx, HF2.out⟩
theorem Gs.two {w w' : World} {X : Nat → Prop} {b r : Nat} (h : Gs w) (hf : Fr (fun k => k = b ∨ k = r) w w') (hx : GX X) (hb : ¬ X b) (hl : GX (fun k => k < r)) : Gs w' := by
 have h1 : ∀ g, X g → g < r → ¬ (g = b ∨ g = r) := fun g h1 h2 e => e.elim (fun e => hb (by rw [← e]; exact h1)) (fun e => by omega)
 exact h.fr hf (h1 _ hx.1 hl.1) (h1 _ hx.2.1 hl.2.1) (h1 _ hx.2.2 hl.2.2)
theorem classesOf_any {S : Nat → Prop} (X : Nat → Prop) (b : Nat) (s : Sch) (v : Value) (en : Ent) (w : World) (h : Sx w X b s) (hX : ∀ k, X k → k < w.heap.size) (hx : GX X) (hG : Gs w) (he : EnIn S w v en) (hS : ∀ i, S i → i ≠ b) :
  Calls Tryz.prog 21 #[.pointer (some ⟨b, 0, none⟩), v] w fun e w' => e = .returned (.tuple #[.agg (bb (classesOf s en).1 20).toArray, .bool (classesOf s en).2]) ∧ Sx w' X b s ∧ Fr (fun k => k = b) w w' := by
 obtain ⟨p, hp⟩ : ∃ p, w.heap.size = p := ⟨_, rfl⟩
 have HP := hid hp
 have HX := hid h; have HXB := hid hX; have HGX : Hid (GX X) := hid hx
 have HG := hid hG; have HE : Hid (EnIn (fun i => S i ∧ i < p) w v en) := hid (he.mono (fun i hi hlt => ⟨hi, by omega⟩)); have HS : Hid (∀ i, (S i ∧ i < p) → i ≠ b) := hid (fun i hi => hS i hi.1)
 have HGL : Hid (GX (fun k => k < p)) := hid (by rw [← hp]; exact hG.gx)
 have HBP : Hid (b < p) := hid (by have := h.lt; omega)
 have HOK := hid h.ok
 obtain ⟨RR, hRR⟩ : ∃ RR, classesOf s en = RR := ⟨_, rfl⟩
 rw [hRR]
 have HRR := hid hRR
 obtain ⟨a, cp, rfl, hcap, hl⟩ := he.form
 obtain ⟨n, hn⟩ : ∃ n, en.length = n := ⟨_, rfl⟩
 have HNN := hid hn
 rw [hn] at HE hcap hl ⊢
 have hni : (n : Int) ≤ 140737488351232 := by omega
 clear h hX hx hG he hS hp hRR hn hcap hl
 go_enter Tryz.func21, Tryz.ntmps21
 go_wp2_with (first
  | ((with_reducible refine K.atO (.box 28 _) ?_); refine wpL_box rfl _ _ rfl _ rfl [.pointer (some ⟨b, 0, none⟩)] rfl ?_; intro w1 HB1 HF1 HS1)
  | ((with_reducible refine K.atO (.alloc 77) ?_); refine wpL_alloc rfl _ rfl _ zeroCs (bb none_ 20) rfl ?_; intro w2 HB2 HF2 HS2; refine Hid.out ?_))
 rw [HP.out] at HB1 ⊢
 obtain ⟨r, hr⟩ : ∃ r, w1.heap.size = r := ⟨_, rfl⟩
 rw [hr] at HB2 ⊢
 have HPR := hid (show r = p + 1 ∧ w2.heap.size = r + 1 from ⟨by have := HS1.out; have := HP.out; omega, by have := HS2.out; omega⟩)
 have HFw2 : Hid (Fr No w w2) := hid (HF1.out.trans' HF2.out)
 have HBp2 := hid (HB1.out.fr HF2.out id)
 have HX2 : Hid (Sx w2 (Also X r) b s) := hid ((HX.out.also (by have := HPR.out; have := HP.out; omega)).no HFw2.out)
 have HXL2 : Hid (∀ k, Also X r k → k < w2.heap.size) := hid (also_lt HXB.out (by have := HPR.out; omega) HFw2.out.size)
 have HG2 := hid (HG.out.no HFw2.out)
 have HE2 := hid (HE.out.fr HFw2.out (fun _ _ _ e => e))
 have HIX := hid (indexAt 48 [.pointer (some ⟨p, 0, none⟩)] (fun x : Atr => decide (s.tyAt x.1 = some 0)) (fun w x c => AtC (fun i => S i ∧ i < p) w x c ∧ Blk w p 28 [.pointer (some ⟨b, 0, none⟩)]) (fun k => k = b) (fun w' => Sx w' (Also X r) b s ∧ Fr (fun k => k = b) w2 w') (fun i => S i ∧ i < p) _ en w2
  (fun w w' x c h hf => ⟨h.1.fr hf (fun i hi _ e => HS.out i hi e), h.2.fr hf (by show ¬ p = b; have := HBP.out; omega)⟩) (fun i hi _ e => HS.out i hi e) ⟨HX2.out, Fr.refl _ _⟩ (Sl.fr HE2.out (Fr.refl No w2) (fun _ _ _ e => e) (fun x c _ h => ⟨h, HBp2.out⟩)) (fun vs w => by kernel_rfl)
  (fun x _ c wv hpp hi hf => by
   obtain ⟨⟨u, rfl, hz, -⟩, hbp⟩ := hpp
   exact (isOC_any (Also X r) b p s x.1 u wv hbp hi.1 (fun k hk => Nat.lt_of_lt_of_le (HXL2.out k hk) hi.2.size) hz).mono fun e w' ⟨h1, h2, h3⟩ => ⟨h1, ⟨h2, hi.2.trans' h3⟩, h3⟩))
 clear hr HB1 HF1 HS1 HF2 HS2 HX HG
 refine hid ?_
 go_wp2_with fail
 refine HIX.out.mono ?_
 rintro e w3 ⟨rfl, ⟨hs3, -⟩, f3⟩
 have HS3 := hid hs3; have HF3 := hid f3
 have HNXB : Hid (¬ Also X r b) := hid hs3.nx
 have HB3 := hid (HB2.out.fr f3 (by show ¬ r = b; have := HPR.out; have := HBP.out; omega))
 have HBp3 := hid (HBp2.out.fr f3 (by show ¬ p = b; have := HBP.out; omega))
 have HG3 : Hid (Gs w3) := hid (HG2.out.bb f3 HGX.out.also HNXB.out)
 clear HIX HX2 HG2 HBp2 HB2
 have hfin : ∀ w5 w6 : World, Fr (fun k => k = b ∨ k = r) w2 w5 → Fr (fun k => k = r) w5 w6 → Fr (fun k => k = b) w w6 := fun w5 w6 h1 h2 =>
  (HFw2.out.no.trans h1 (fun k e => e.elim .inl (fun e => .inr (by have := HPR.out; have := HP.out; omega)))).trans h2 (fun k e => .inr (by have e : k = r := e; have := HPR.out; have := HP.out; omega))
 have HFIN := hid hfin
 clear hfin
 rcases idx_find en (fun x : Atr => decide (s.tyAt x.1 = some 0)) with ⟨i, at_, hi, hat, hfd⟩ | ⟨hi, hfd⟩
 ·rw [hi]
  have hil : i < n := by rw [← HNN.out]; exact (List.getElem?_eq_some_iff.1 hat).1
  have HT0 : Hid (clVals s none_ true (at_.2.drop 0) = RR) := hid (by have h := HRR.out; unfold classesOf at h; rw [hfd] at h; exact h)
  obtain ⟨g, o, cq, cs, e1, hSg, hgl, hrr, -, hpp⟩ := (EnIn.fr HE2.out HF3.out (fun i hi _ e => HS.out i hi e)).get hat
  rw [HNN.out] at e1
  obtain ⟨rfl, rfl⟩ := K.sj e1
  obtain ⟨u, rfl, hz, hls⟩ := hpp
  obtain ⟨va, vcp, hu, hvc, hvl⟩ := hls.form
  subst hu
  have HLS := hid hls
  obtain ⟨m, hm⟩ : ∃ m, at_.2.length = m := ⟨_, rfl⟩
  have HMM := hid hm
  rw [hm] at HLS hvl hvc hrr
  have c1 : w3.cell? ⟨g, o + i * 2 + 1, none⟩ = some (.slice va m vcp) := hrr 1 _ rfl
  have hmi : (m : Int) ≤ 140737488351232 := by omega
  have hii : (i : Int) < n := by omega
  have hi0 : (0 : Int) ≤ i := by omega
  clear hi hat hfd hrr hSg hgl hz hls hm hvc hvl hil
  go_wp2_with fail
  clear c1
  go_loopw [5, 27] (fun lv iv wr => ∃ (j : Nat) (f : Set) (all : Bool), iv = .int .i64 j ∧ lv = .bool all ∧ j ≤ m ∧ Hid (Blk wr r 77 (bb f 20)) ∧ Hid (clVals s f all (at_.2.drop j) = RR) ∧ Hid (Sx wr (Also X r) b s ∧ Fr (fun k => k = b ∨ k = r) w3 wr)) (fun _ iv _ => m - (intOf iv).toNat)
  case atStart => exact ⟨0, none_, true, rfl, rfl, Nat.zero_le _, HB3, HT0, hid ⟨HS3.out, Fr.refl _ _⟩⟩
  case round =>
   obtain ⟨j, f, all, rfl, rfl, hj, HB, HT, HI⟩ := hrel
   have HGr : Hid (Gs wr) := hid (HG3.out.two HI.out.2 HGX.out.also HNXB.out ⟨Nat.lt_of_lt_of_le HGL.out.1 (by have := HPR.out; omega), Nat.lt_of_lt_of_le HGL.out.2.1 (by have := HPR.out; omega), Nat.lt_of_lt_of_le HGL.out.2.2 (by have := HPR.out; omega)⟩)
   by_cases hlt : j < m
   ·obtain ⟨x, hx⟩ : ∃ x, at_.2[j]? = some x := ⟨_, List.getElem?_eq_getElem (by rw [HMM.out]; exact hlt)⟩
    have hlti : (j : Int) < m := by omega
    have hj0 : (0 : Int) ≤ j := by omega
    have HBpr : Hid (Blk wr p 28 [.pointer (some ⟨b, 0, none⟩)]) := hid (HBp3.out.fr HI.out.2 (fun e => e.elim (fun e => by have e : p = b := e; have := HBP.out; omega) (fun e => by have e : p = r := e; have := HPR.out; omega)))
    obtain ⟨g2, o2, cq2, e2, hcx, hzx⟩ := (HLS.out.fr HI.out.2 (fun i hi _ e => e.elim (fun e => HS.out i hi e) (fun e => by have e : i = r := e; have := hi.2; have := HPR.out; omega))).at_ hx
    rw [HMM.out] at e2
    simp only [Value.slice.injEq, true_and] at e2
    obtain ⟨rfl, rfl⟩ := e2
    have HZX := hid hzx
    obtain ⟨hdrop, -⟩ := drop_at hx
    have HT2 : Hid (clVals s (clStep s f all x).1 (clStep s f all x).2 (at_.2.drop (j + 1)) = RR) := hid (by
     have h := HT.out
     rw [hdrop] at h
     exact h)
    have HLT := hid hlt
    have HXLr : Hid (∀ k, Also X r k → k < wr.heap.size) := hid (fun k hk => Nat.lt_of_lt_of_le (HXL2.out k hk) (Nat.le_trans HF3.out.size HI.out.2.size))
    clear hzx hx hdrop HT hj hlt
    go_wp2_with fail
    refine (normOf_any 1 x HZX.out wr HGr.out).mono ?_
    rintro e y4 ⟨⟨y, rfl, hy, hxy⟩, f4⟩
    have HY := hid (show Sz y ∧ ∀ z, normV 1 x = some z → y = z from ⟨hy, hxy⟩)
    have HF4 := hid f4
    have HX4 := hid (HI.out.1.no f4)
    have HB4 := hid (HB.out.fr f4 id)
    have HBp4 := hid (HBpr.out.fr f4 id)
    have HXL4 : Hid (∀ k, Also X r k → k < y4.heap.size) := hid (fun k hk => Nat.lt_of_lt_of_le (HXLr.out k hk) f4.size)
    have cp : y4.cell? ⟨p, 0, none⟩ = some (.pointer (some ⟨b, 0, none⟩)) := HBp4.out.cell 0
    clear hy hxy f4 hcx
    obtain ⟨OK, hOK⟩ : ∃ OK, (normV 1 x).isSome = OK := ⟨_, rfl⟩
    have HO := hid hOK
    rw [hOK]
    clear hOK
    go_wp2_with fail
    refine (classAt_any (Also X r) b s y y4 HX4.out HXL4.out HY.out.1).mono ?_
    rintro e y5 ⟨rfl, hs5, f5⟩
    have HS5 := hid hs5.sx
    have HB5 := hid (HB4.out.fr f5 (by show ¬ r = b; have := HPR.out; have := HBP.out; omega))
    have HBp5 := hid (HBp4.out.fr f5 (by show ¬ p = b; have := HBP.out; omega))
    have HFR5 : Hid (Fr (fun k => k = b ∨ k = r) w3 y5) := hid ((HI.out.2.trans' HF4.out.no).trans' (f5.mono (fun k e => .inl e)))
    have HXL5 : Hid (∀ k, Also X r k → k < y5.heap.size) := hid (fun k hk => Nat.lt_of_lt_of_le (HXL4.out k hk) f5.size)
    clear hs5 f5 cp
    cases OK with
    | false =>
     have HT3 : Hid (clVals s f false (at_.2.drop (j + 1)) = RR) := hid (by
      have h := HT2.out
      have h2 := HO.out
      rw [Option.isSome_eq_false_iff, Option.isNone_iff_eq_none] at h2
      unfold clStep at h
      rw [h2] at h
      exact h)
     unfold atR
     go_wp2_with fail
     refine ⟨⟨j + 1, f, false, by go_num, rfl, HLT.out, HB5, HT3, hid ⟨HS5.out, HFR5.out⟩⟩, ?_⟩
     have := HLT.out
     simp [intOf]; omega
    | true =>
     obtain ⟨z, hz⟩ := Option.isSome_iff_exists.1 HO.out
     obtain rfl : y = z := HY.out.2 z hz
     have HNV := hid hz
     clear hz
     cases hca : s.clAt y with
     | none =>
      have HT3 : Hid (clVals s f false (at_.2.drop (j + 1)) = RR) := hid (by
       have h := HT2.out
       unfold clStep at h
       rw [HNV.out, Option.bind_some, hca] at h
       exact h)
      rw [atR_none]
      clear hca
      go_wp2_with fail
      refine ⟨⟨j + 1, f, false, by go_num, rfl, HLT.out, HB5, HT3, hid ⟨HS5.out, HFR5.out⟩⟩, ?_⟩
      have := HLT.out
      simp [intOf]; omega
     | some k =>
      have HT3 : Hid (clVals s (puts f (line s k)) all (at_.2.drop (j + 1)) = RR) := hid (by
       have h := HT2.out
       unfold clStep at h
       rw [HNV.out, Option.bind_some, hca] at h
       exact h)
      have HK := hid (clAt_lt HOK.out hca).1
      have cp : y5.cell? ⟨p, 0, none⟩ = some (.pointer (some ⟨b, 0, none⟩)) := HBp5.out.cell 0
      rw [atR_some]
      clear hca
      go_wp2_with fail
      refine (addLine_any (Also X r) b r s f k y5 HS5.out HXL5.out (.inr rfl) HB5.out HK.out).mono ?_
      rintro e y6 ⟨rfl, hb6, hs6, f6⟩
      have HB6 := hid hb6; have HS6 := hid hs6
      have HFR6 := hid (HFR5.out.trans' f6)
      clear hb6 hs6 f6 cp
      go_wp2_with fail
      refine ⟨⟨j + 1, _, all, by go_num, rfl, HLT.out, HB6, HT3, hid ⟨HS6.out, HFR6.out⟩⟩, ?_⟩
      have := HLT.out
      simp [intOf]; omega
   ·obtain rfl : j = m := by omega
    obtain rfl : RR = (f, all) := by
     have h := HT.out
     rw [← HMM.out, List.drop_length] at h
     exact h.symm
    have c0 : wr.rangeAt r 0 (bb f 20) := HB.out.range 0 _ (by rw [List.drop_zero, List.take_length])
    go_wp2_with (first
     | ((with_reducible refine K.atO (.load 77 _) ?_); refine wpL_load rfl _ _ rfl r 0 rfl (bb f 20) _ c0 rfl rfl (by rw [bb_length]; exact infoCs2) ?_)
     | ((with_reducible refine K.atO (.store 77 _ _) ?_); refine wpL_store rfl _ _ _ rfl r 0 (bb f 20) rfl rfl 77 _ HB.out (by simp) (by rw [bb_length]; exact infoCs2) (bb_one _ _) ?_; intro y5 HB5 HF5 HS5; rw [bb_spl] at HB5))
    refine ret_cell2 rfl _ rfl HB5.out rfl rfl (by rw [bb_length]; exact infoCs2) rfl ?_
    exact ⟨rfl, (HI.out.1.fr HF5.out (fun k hk => .inl (.inr hk))).less (fun _ hk => .inl hk), HFIN.out _ _ ((HF3.out.mono (fun k e => .inl e)).trans' HI.out.2) HF5.out⟩
 ·rw [hi]
  obtain rfl : RR = (none_, true) := by have h := HRR.out; unfold classesOf at h; rw [hfd] at h; exact h.symm
  clear hi hfd
  go_wp2_with (first
   | ((with_reducible refine K.atO (.build 77 _) ?_); refine wpL_valZ rfl (.agg (bb none_ 20).toArray) (by kernel_rfl) ?_)
   | ((with_reducible refine K.atO (.store 77 _ _) ?_); refine wpL_store rfl _ _ _ rfl r 0 (bb none_ 20) rfl rfl 77 _ HB3.out (by simp) (by rw [bb_length]; exact infoCs2) (bb_one _ _) ?_; intro y5 HB5 HF5 HS5; rw [bb_spl] at HB5))
  refine ret_cell2 rfl _ rfl HB5.out rfl rfl (by rw [bb_length]; exact infoCs2) rfl ?_
  exact ⟨rfl, (HS3.out.fr HF5.out (fun k hk => .inl (.inr hk))).less (fun _ hk => .inl hk), HFIN.out _ _ (HF3.out.mono (fun k e => .inl e)) HF5.out⟩
end Go.Proofs.YtgbiicipkbpmeaaGreatDoor.SC
