/-
  Part 28 of the proof: FtC3, FtEs.
-/
import Derived.Test.YtgbiicipkbpmeaaGreatDoorFe27
import Derived.Test.YtgbiicipkbpmeaaGreatDoorFe13
import Derived.Test.YtgbiicipkbpmeaaGreatDoorFe17
import Derived.Test.YtgbiicipkbpmeaaGreatDoorFe22
set_option linter.unusedSimpArgs false
set_option linter.unusedVariables false
namespace Go.Proofs.YtgbiicipkbpmeaaGreatDoor.FT
set_option maxRecDepth 100000
set_option maxHeartbeats 128000000
open Go.RowKit K BE DN SC
theorem binOp_lssS (t : TypeId) (a b : ByteArray) : binOp .lss t (.string a) (.string b) = pure (.bool (Op.bytesLess a.toList b.toList)) := by simp [binOp, Op.stringOp]
theorem exec_lssS {op : Oper} {a : Act} (x y : Operand) (u : TypeId) (ho : op.op = .binOp .lss 9 x y u) (p q : B) (hx : a.eval x = .string (sb p)) (hy : a.eval y = .string (sb q)) (r : Bool) (hr : ltB p q = r) (w : World) :
  (execOp a.eval op).run Tryz.prog w = .ok (.value (.bool r)) w := by
 subst hr
 unfold execOp
 simp only [ho, hx, hy]
 rw [binOp_lssS, ByteArray.toList_eq, ByteArray.toList_eq, sb_list, sb_list, less_ltB]
 simp [go_sem, eqGuard, Result.andThen]
theorem num_len {v : B} {m : Int} (h : numV v = some m) : v.length ≤ 4294967000 := by
 unfold numV at h
 by_cases h48 : v = [48]
 ·rw [h48]; decide
 ·rw [if_neg h48] at h
  cases v with
  | nil => decide
  | cons c r =>
   simp only at h
   have key : ∀ l : B, isDs l = true → l.length ≤ 9 := fun l hl => by
    unfold isDs at hl
    simp only [Bool.and_eq_true, decide_eq_true_eq] at hl
    exact hl.1.2
   by_cases hc : c.toNat = 45
   ·rw [if_pos hc] at h
    by_cases hd : isDs r = true
    ·have := key r hd; simp only [List.length_cons]; omega
    ·rw [if_neg hd] at h; cases h
   ·rw [if_neg hc] at h
    by_cases hd : isDs (c :: r) = true
    ·have := key _ hd; omega
    ·rw [if_neg hd] at h; cases h
theorem cb_is (x y : B) : Lib.compareBytes x y = if x = y then 0 else if ltB x y then -1 else 1 := by
 by_cases h : x = y
 ·rw [if_pos h]; exact (cb_zero x y).2 h
 ·rw [if_neg h]
  have h1 := cmp_lt x y
  have h2 : Lib.compareBytes x y ≠ 0 := fun e => h ((cb_zero x y).1 e)
  have h3 := cb_val x y
  cases hl : ltB x y with
  | true =>
   rw [hl, decide_eq_true_eq] at h1
   rw [if_pos rfl]; omega
  | false =>
   rw [hl, decide_eq_false_iff_not] at h1
   rw [if_neg (by decide)]; omega
theorem sgn_is {x y : B} {m n : Int} (hx : numV x = some m) (hy : numV y = some n) : sgn m n = if x = y then 0 else if m < n then -1 else 1 := by
 unfold sgn
 by_cases h : x = y
 ·subst h
  rw [hx] at hy
  cases hy
  rw [if_pos rfl, if_neg (by omega), if_neg (by omega)]
 ·rw [if_neg h]
  have hne : m ≠ n := by
   rintro rfl
   obtain ⟨-, h1, -⟩ := num_back hx
   obtain ⟨-, h2, -⟩ := num_back hy
   exact h (h1.symm.trans h2)
  by_cases hl : m < n
  ·rw [if_pos hl, if_pos hl]
  ·rw [if_neg hl, if_neg hl, if_pos (by omega)]
theorem rcompare_any {S S2 : Nat → Prop} (vt vc : Value) (s : Sch) (n x y : B) (w : World) (h : TysIn S w vt s.tys) (hy : ClsIn S2 w vc s.cls) (hk : okS s = true) (hn : Sz n) (hzx : Sz x) (hzy : Sz y) :
  Calls Tryz.prog 68 #[.agg #[vt, vc], .string (sb n), .string (sb x), .string (sb y)] w fun e w' => e = .returned (.tuple #[.int .i64 (cmpE s n x y).1, .int .i64 (cmpE s n x y).2]) ∧ Fr No w w' := by
 have HT := hid h; have HC := hid hy; have HK := hid hk; have HN := hid hn; have HZ := hid (show Sz x ∧ Sz y from ⟨hzx, hzy⟩)
 have HSZ := hid (show Sz (normE s n x).1 ∧ Sz (normE s n y).1 from ⟨normE_sz hzx, normE_sz hzy⟩)
 obtain ⟨va, vcp, e0, -, hle⟩ := h.form
 obtain ⟨c2, n2, cc2, e2⟩ : ∃ a n c, vc = .slice a n c := by obtain ⟨a, c, e, -⟩ := hy.form; exact ⟨_, _, _, e⟩
 obtain ⟨N, hN⟩ : ∃ N, s.tys.length = N := ⟨_, rfl⟩
 have HNN := hid hN
 subst e0 e2
 rw [hN] at HT hle ⊢
 have hNi : (N : Int) ≤ 140737488351232 := by omega
 obtain ⟨E1, hE1⟩ : ∃ E1, (normE s n x).2 = E1 := ⟨_, rfl⟩
 obtain ⟨E2, hE2⟩ : ∃ E2, (normE s n y).2 = E2 := ⟨_, rfl⟩
 obtain ⟨p, hp⟩ : ∃ p, (normE s n x).1 = p := ⟨_, rfl⟩
 obtain ⟨q, hq⟩ : ∃ q, (normE s n y).1 = q := ⟨_, rfl⟩
 have HE1 := hid hE1; have HE2 := hid hE2; have HP := hid hp; have HQ := hid hq
 clear h hy hk hn hzx hzy hN hle hE1 hE2 hp hq
 go_enter Tryz.func68, Tryz.ntmps68
 go_wp2_with (first
  | ((with_reducible refine K.atO (.box 25 _) ?_); refine wpL_box rfl _ _ rfl _ rfl [.slice va N vcp, .slice c2 n2 cc2] rfl ?_; intro w1 HB1 HF1 HS1; refine Hid.out ?_))
 obtain ⟨b, hb⟩ : ∃ b, w.heap.size = b := ⟨_, rfl⟩
 rw [hb] at HB1 ⊢
 have HT1 := hid (TysIn.fr (D := No) HT.out HF1.out (fun _ _ _ e => e)); have HC1 := hid (ClsIn.fr (D := No) HC.out HF1.out (fun _ _ _ e => e))
 have HLD := hid (HB1.out.range 0 [.slice va N vcp, .slice c2 n2 cc2] rfl)
 clear hb HS1
 refine hid ?_
 go_wp2_with (first
  | ((with_reducible refine K.atO (.load 25 _) ?_); refine wpL_valZ rfl (.agg #[.slice va N vcp, .slice c2 n2 cc2]) (exec_load _ (.tmp 4) rfl b 0 rfl [.slice va N vcp, .slice c2 n2 cc2] _ rfl rfl infoSc5 w1 HLD.out) ?_))
 refine (rnorm13_any _ _ s n x w1 HT1.out HC1.out HK.out HN.out HZ.out.1).mono ?_
 rintro e w2 ⟨rfl, f2⟩
 rw [HE1.out, HP.out]
 have HF2 := hid (HF1.out.trans' f2); have HB2 := hid (HB1.out.fr f2 id)
 have HT2 := hid (TysIn.fr (D := No) HT1.out f2 (fun _ _ _ e => e)); have HC2 := hid (ClsIn.fr (D := No) HC1.out f2 (fun _ _ _ e => e))
 have HLD2 := hid (f2.range HLD.out id)
 clear f2 HLD
 by_cases h1 : E1 = 0
 case neg =>
  have HR : Hid (cmpE s n x y = (0, E1)) := hid (by unfold cmpE; rw [HE1.out, if_neg h1])
  have h1b : (E1 != 0) = true := by rw [bne_iff_ne]; exact h1
  have h1c : (E1 == 0) = false := beqN h1
  clear h1
  go_wp2_with fail
  go_ret2
  exact ⟨by rw [HR.out]; rfl, HF2.out⟩
 subst h1
 go_wp2_with (first
  | ((with_reducible refine K.atO (.load 25 _) ?_); refine wpL_valZ rfl (.agg #[.slice va N vcp, .slice c2 n2 cc2]) (exec_load _ (.tmp 4) rfl b 0 rfl [.slice va N vcp, .slice c2 n2 cc2] _ rfl rfl infoSc5 w2 HLD2.out) ?_))
 refine (rnorm13_any _ _ s n y w2 HT2.out HC2.out HK.out HN.out HZ.out.2).mono ?_
 rintro e w3 ⟨rfl, f3⟩
 rw [HE2.out, HQ.out]
 have HF3 := hid (HF2.out.trans' f3); have HB3 := hid (HB2.out.fr f3 id)
 have HT3 := hid (TysIn.fr (D := No) HT2.out f3 (fun _ _ _ e => e)); have HC3 := hid (ClsIn.fr (D := No) HC2.out f3 (fun _ _ _ e => e))
 clear f3 HLD2
 by_cases h2 : E2 = 0
 case neg =>
  have HR : Hid (cmpE s n x y = (0, E2)) := hid (by unfold cmpE; rw [HE1.out, if_pos rfl, HE2.out, if_neg h2])
  have h2b : (E2 != 0) = true := by rw [bne_iff_ne]; exact h2
  have h2c : (E2 == 0) = false := beqN h2
  clear h2
  go_wp2_with fail
  go_ret2
  exact ⟨by rw [HR.out]; rfl, HF3.out⟩
 subst h2
 have HR : Hid (cmpE s n x y = (cmpV (synOf s n) p q, 0)) := hid (by unfold cmpE; rw [HE1.out, if_pos rfl, HE2.out, if_pos rfl, HP.out, HQ.out])
 obtain ⟨i, hat⟩ := normE_at HE1.out
 obtain ⟨g, o, cq, cs, e1, -, -, hr, -, hpp⟩ := HT3.out.get (tyAt_tys hat)
 rw [HNN.out] at e1
 obtain ⟨rfl, rfl⟩ := K.sj e1
 obtain ⟨rfl, hznm⟩ := hpp
 have HD1 : Hid (w3.drew.cell? ⟨g, o + i * 6 + 1, none⟩ = some (.int .i64 (tyOf s n).syn)) := hid (hr 1 _ rfl)
 have hiN : (i : Int) < N := by have := (List.getElem?_eq_some_iff.1 (tyAt_tys hat)).1; rw [HNN.out] at this; omega
 have hi0 : (0 : Int) ≤ i := by omega
 have HSY := hid (synOf_ty s n i hat)
 have HFI : Hid (idxI s.tys (fun a => low a.nm == low n) = (i : Int)) := hid (by rw [tyAt_idx, hat])
 have HNM : Hid ((tyOf s n).syn = 3 → ∃ m k, numV p = some m ∧ numV q = some k) := hid (fun h3 => by
  obtain ⟨m, hm⟩ := norm_num hat h3 HE1.out
  obtain ⟨k, hk⟩ := norm_num hat h3 HE2.out
  rw [HP.out] at hm
  rw [HQ.out] at hk
  exact ⟨m, k, hm, hk⟩)
 obtain ⟨sy, hsy⟩ : ∃ sy, (tyOf s n).syn = sy := ⟨_, rfl⟩
 rw [hsy] at HD1 HSY HNM
 rw [HSY.out] at HR
 have HC0 : Hid (w3.drew.cell? ⟨b, 0, none⟩ = some (.slice (some ⟨g, o, none⟩) N vcp)) := hid (HB3.out.cell 0)
 have HCR : Hid (w3.drew.rangeAt b 0 [.slice (some ⟨g, o, none⟩) N vcp, .slice c2 n2 cc2]) := hid (HB3.out.range 0 [.slice (some ⟨g, o, none⟩) N vcp, .slice c2 n2 cc2] rfl)
 have HT3d : Hid (TysIn S w3.drew (.slice (some ⟨g, o, none⟩) N vcp) s.tys) := hid (TysIn.fr (D := No) HT3.out (Fr.refl No w3).drew (fun _ _ _ e => e))
 have HC3d : Hid (ClsIn S2 w3.drew (.slice c2 n2 cc2) s.cls) := hid (ClsIn.fr (D := No) HC3.out (Fr.refl No w3).drew (fun _ _ _ e => e))
 obtain ⟨lt, hlt⟩ : ∃ lt, ltB p q = lt := ⟨_, rfl⟩
 have HLT := hid hlt
 clear hat hr hznm hsy hlt
 go_wp2_with (first
  | ((with_reducible refine K.atO (.binOp .lss 9 _ _ _) ?_); refine wpL_valZ rfl (.bool lt) (exec_lssS _ _ _ rfl p q rfl rfl _ HLT.out _) ?_))
 have d0 := HC0.out; have d1 := HD1.out; have dr := HCR.out
 have hold : Facts.hold [(1, fun w' => w'.cell? ⟨b, 0, none⟩ = some (.slice (some ⟨g, o, none⟩) N vcp)), (2, fun w' => w'.rangeAt b 0 [.slice (some ⟨g, o, none⟩) N vcp, .slice c2 n2 cc2]), (7, fun w' => w'.cell? ⟨g, o + i * 6 + 1, none⟩ = some (.int .i64 sy))] w3.drew := Facts.cons_hold d0 (Facts.cons_hold dr (Facts.cons_hold d1 (Facts.nil_hold _)))
 refine wpD_region hold (by kernel_rfl) 9 rfl ?_
 (refine K.pl 0 (v := ?_) rfl ?_ ?_; rotate_left; (intro; go_simp; try with_reducible rfl); simp only [K.pu])
 (refine K.tk 1 _ rfl K.m0 (v := ?_) ?_ ?_; rotate_left; (intro _ _hw; go_simp; try with_reducible rfl); simp only [K.pu])
 (refine K.tk 2 _ rfl K.m1 (exec_load _ _ rfl b 0 rfl _ _ rfl rfl infoSc5) ?_; simp only [K.pu])
 (refine K.pl 3 (v := ?_) rfl ?_ ?_; rotate_left; (intro; go_simp; try with_reducible rfl); simp only [K.pu])
 clear hold d0 d1 dr
 refine K.on 4 [(1, fun w' => w'.cell? ⟨b, 0, none⟩ = some (.slice (some ⟨g, o, none⟩) N vcp)), (7, fun w' => w'.cell? ⟨g, o + i * 6 + 1, none⟩ = some (.int .i64 sy))] rfl (fun K4 hK4 => ?_)
 refine wp_call (.func 29) _ _ rfl 29 [] rfl (fun vs w => by kernel_rfl) [.agg #[.slice (some ⟨g, o, none⟩) N vcp, .slice c2 n2 cc2], .string (sb n)] (by rfl) ?_
 refine (rfind_any _ _ s n w3.drew HT3d.out HC3d.out HN.out).mono ?_
 rintro e w4 ⟨rfl, f4⟩
 rw [HFI.out]
 have d0 : w4.cell? ⟨b, 0, none⟩ = some (.slice (some ⟨g, o, none⟩) N vcp) := f4.cell HC0.out id
 have d1 : w4.cell? ⟨g, o + i * 6 + 1, none⟩ = some (.int .i64 sy) := f4.cell HD1.out id
 have HF4 := hid (HF3.out.trans' ((Fr.refl No w3).drew.trans' f4))
 refine ⟨_, rfl, hK4 _ _ (Facts.cons_hold d0 (Facts.cons_hold d1 (Facts.nil_hold _))) ?_⟩
 clear hK4 K4 f4
 simp only [K.pu]
 have hold : Facts.hold [(1, fun w' => w'.cell? ⟨b, 0, none⟩ = some (.slice (some ⟨g, o, none⟩) N vcp)), (7, fun w' => w'.cell? ⟨g, o + i * 6 + 1, none⟩ = some (.int .i64 sy))] w4 := Facts.cons_hold d0 (Facts.cons_hold d1 (Facts.nil_hold _))
 (refine K.pl 5 (v := ?_) rfl ?_ ?_; rotate_left; (intro; go_simp; try with_reducible rfl); simp only [K.pu])
 (refine K.pl 6 (v := ?_) rfl ?_ ?_; rotate_left; (intro; go_simp; try with_reducible rfl); simp only [K.pu])
 (refine K.tk 7 _ rfl K.m1 (v := ?_) ?_ ?_; rotate_left; (intro _ _hw; go_simp; try with_reducible rfl); simp only [K.pu])
 by_cases h3 : sy = 3
 ·have hs3 := beqI h3
  obtain ⟨mx, my, hmx, hmy⟩ := HNM.out h3
  have HMX := hid hmx; have HMY := hid hmy
  have HCV : Hid (cmpE s n x y = (if p = q then 0 else if mx < my then -1 else 1, 0)) := hid (by
   rw [HR.out]
   unfold cmpV
   rw [if_pos h3, hmx, hmy]
   show (sgn mx my, (0 : Int)) = _
   rw [sgn_is hmx hmy])
  clear h3 hmx hmy
  (refine K.pl 8 (v := ?_) rfl ?_ ?_; rotate_left; (intro; go_simp; try with_reducible rfl); simp only [K.pu])
  clear hold d0 d1
  refine wpD_done (by kernel_rfl) ?_ _
  go_wp2_with fail
  refine (whole_any p mx HMX.out (num_len HMX.out) w4).mono ?_
  rintro e w5 ⟨rfl, f5⟩
  have HF5 := hid (HF4.out.trans' f5)
  clear f5
  go_wp2_with fail
  refine (whole_any q my HMY.out (num_len HMY.out) w5).mono ?_
  rintro e w6 ⟨rfl, f6⟩
  have HF6 := hid (HF5.out.trans' f6)
  clear f6
  by_cases hpq : p = q
  ·have HDE := hid (show decide (p = q) = true from decide_eq_true hpq)
   have HFIN : Hid (cmpE s n x y = (0, 0)) := hid (by rw [HCV.out, if_pos hpq])
   clear hpq
   go_wp2_with (first
    | ((with_reducible refine K.atO (.binOp .eql 9 _ _ _) ?_); refine wpL_valZ rfl (.bool true) (exec_eqQ _ _ _ rfl p q rfl rfl _ HDE.out rfl rfl _) ?_))
   go_ret2
   exact ⟨by rw [HFIN.out]; rfl, HF6.out⟩
  ·have HDE := hid (show decide (p = q) = false from decide_eq_false hpq)
   by_cases hl : mx < my
   ·have HFIN : Hid (cmpE s n x y = (-1, 0)) := hid (by rw [HCV.out, if_neg hpq, if_pos hl])
    clear hpq
    go_wp2_with (first
     | ((with_reducible refine K.atO (.binOp .eql 9 _ _ _) ?_); refine wpL_valZ rfl (.bool false) (exec_eqQ _ _ _ rfl p q rfl rfl _ HDE.out rfl rfl _) ?_))
    go_ret2
    exact ⟨by rw [HFIN.out]; rfl, HF6.out⟩
   ·have HFIN : Hid (cmpE s n x y = (1, 0)) := hid (by rw [HCV.out, if_neg hpq, if_neg hl])
    clear hpq
    go_wp2_with (first
     | ((with_reducible refine K.atO (.binOp .eql 9 _ _ _) ?_); refine wpL_valZ rfl (.bool false) (exec_eqQ _ _ _ rfl p q rfl rfl _ HDE.out rfl rfl _) ?_))
    go_ret2
    exact ⟨by rw [HFIN.out]; rfl, HF6.out⟩
 ·have hs3 := beqN h3
  have HCV : Hid (cmpE s n x y = (if p = q then 0 else if lt then -1 else 1, 0)) := hid (by
   rw [HR.out]
   unfold cmpV
   rw [if_neg h3, cb_is, HLT.out])
  clear h3
  (refine K.pl 8 (v := ?_) rfl ?_ ?_; rotate_left; (intro; go_simp; try with_reducible rfl); simp only [K.pu])
  clear hold d0 d1
  refine wpD_done (by kernel_rfl) ?_ _
  by_cases hpq : p = q
  ·have HDE := hid (show decide (p = q) = true from decide_eq_true hpq)
   have HFIN : Hid (cmpE s n x y = (0, 0)) := hid (by rw [HCV.out, if_pos hpq])
   clear hpq
   go_wp2_with (first
    | ((with_reducible refine K.atO (.binOp .eql 9 _ _ _) ?_); refine wpL_valZ rfl (.bool true) (exec_eqQ _ _ _ rfl p q rfl rfl _ HDE.out rfl rfl _) ?_))
   go_ret2
   exact ⟨by rw [HFIN.out]; rfl, HF4.out⟩
  ·have HDE := hid (show decide (p = q) = false from decide_eq_false hpq)
   cases lt with
   | true =>
    have HFIN : Hid (cmpE s n x y = (-1, 0)) := hid (by rw [HCV.out, if_neg hpq]; rfl)
    clear hpq
    go_wp2_with (first
     | ((with_reducible refine K.atO (.binOp .eql 9 _ _ _) ?_); refine wpL_valZ rfl (.bool false) (exec_eqQ _ _ _ rfl p q rfl rfl _ HDE.out rfl rfl _) ?_))
    go_ret2
    exact ⟨by rw [HFIN.out]; rfl, HF4.out⟩
   | false =>
    have HFIN : Hid (cmpE s n x y = (1, 0)) := hid (by rw [HCV.out, if_neg hpq]; rfl)
    clear hpq
    go_wp2_with (first
     | ((with_reducible refine K.atO (.binOp .eql 9 _ _ _) ?_); refine wpL_valZ rfl (.bool false) (exec_eqQ _ _ _ rfl p q rfl rfl _ HDE.out rfl rfl _) ?_))
    go_ret2
    exact ⟨by rw [HFIN.out]; rfl, HF4.out⟩
theorem FlC.szv {M : Nat} {S : Nat → Prop} {w : World} {f : Fl} {cs : List Value} (h : FlC M S w f cs) : Sz f.type ∧ Sz f.value := by
 obtain ⟨ka, kc, aa, ac, -, -, h1, h2⟩ := h.form
 exact ⟨h1, h2⟩
theorem asks_any {S S2 T : Nat → Prop} {M : Nat} (vt vc : Value) (s : Sch) (f : Fl) (cs : List Value) (w : World) (h : TysIn S w vt s.tys) (hy : ClsIn S2 w vc s.cls) (hk : okS s = true) (hf : FlC M T w f cs) :
  Calls Tryz.prog 35 #[.agg #[vt, vc], .agg cs.toArray] w fun e w' => e = .returned (.bool (asksD s f)) ∧ Fr No w w' := by
 have HT := hid h; have HC := hid hy; have HK := hid hk
 have HZ := hid hf.szv
 obtain ⟨va, vcp, e0, -, hle⟩ := h.form
 obtain ⟨c2, n2, cc2, e2⟩ : ∃ a n c, vc = .slice a n c := by obtain ⟨a, c, e, -⟩ := hy.form; exact ⟨_, _, _, e⟩
 obtain ⟨N, hN⟩ : ∃ N, s.tys.length = N := ⟨_, rfl⟩
 have HNN := hid hN
 subst e0 e2
 rw [hN] at HT hle ⊢
 have hNi : (N : Int) ≤ 140737488351232 := by omega
 obtain ⟨ka, kc, aa, ac, rfl, -⟩ := hf.form
 generalize f.kids.length = nk
 generalize f.any.length = na
 obtain ⟨R, hR⟩ : ∃ R, asksD s f = R := ⟨_, rfl⟩
 have HR := hid hR
 rw [hR]
 clear h hy hk hN hle hf hR
 go_enter Tryz.func35, Tryz.ntmps35
 go_wp2_with (first
  | ((with_reducible refine K.atO (.box 25 _) ?_); refine wpL_box rfl _ _ rfl _ rfl [.slice va N vcp, .slice c2 n2 cc2] rfl ?_; intro w1 HB1 HF1 HS1)
  | ((with_reducible refine K.atO (.box 39 _) ?_); refine wpL_box rfl _ _ rfl _ rfl (flV f (.slice ka nk kc) (.slice aa na ac)) rfl ?_; intro w2 HB2 HF2 HS2; refine Hid.out ?_))
 obtain ⟨b, hb⟩ : ∃ b, w.heap.size = b := ⟨_, rfl⟩
 obtain ⟨q, hq⟩ : ∃ q, w1.heap.size = q := ⟨_, rfl⟩
 rw [hb] at HB1 ⊢
 rw [hq] at HB2 ⊢
 have HB1' := hid (HB1.out.fr HF2.out id)
 have HF := hid (HF1.out.trans' HF2.out)
 have HT1 := hid (TysIn.fr (D := No) HT.out HF.out (fun _ _ _ e => e)); have HC1 := hid (ClsIn.fr (D := No) HC.out HF.out (fun _ _ _ e => e))
 have HLD := hid (HB1'.out.range 0 [.slice va N vcp, .slice c2 n2 cc2] rfl)
 have k2 : w2.cell? ⟨q, 2, none⟩ = some (.string (sb f.type)) := HB2.out.cell 2
 clear hb hq HS1 HS2 HB1 HF1 HF2
 refine hid ?_
 go_wp2_with (first
  | ((with_reducible refine K.atO (.load 25 _) ?_); refine wpL_valZ rfl (.agg #[.slice va N vcp, .slice c2 n2 cc2]) (exec_load _ (.tmp 2) rfl b 0 rfl [.slice va N vcp, .slice c2 n2 cc2] _ rfl rfl infoSc5 w2 HLD.out) ?_))
 refine (rfind_any _ _ s f.type w2 HT1.out HC1.out HZ.out.1).mono ?_
 rintro e w3 ⟨rfl, f3⟩
 rw [tyAt_idx]
 have HF3 := hid (HF.out.trans' f3)
 have HB3 := hid (HB1'.out.fr f3 id); have HB4 := hid (HB2.out.fr f3 id)
 have HT3 := hid (TysIn.fr (D := No) HT1.out f3 (fun _ _ _ e => e)); have HC3 := hid (ClsIn.fr (D := No) HC1.out f3 (fun _ _ _ e => e))
 have HLD3 := hid (HB3.out.range 0 [.slice va N vcp, .slice c2 n2 cc2] rfl)
 clear f3 k2 HT1 HC1 HB1' HB2 HLD HF
 cases hat : s.tyAt f.type with
 | none =>
  have HE : Hid (R = false) := hid (by rw [← HR.out]; unfold asksD; rw [hat])
  clear hat
  go_wp2_with fail
  go_ret
  exact ⟨by rw [HE.out]; rfl, HF3.out⟩
 | some i =>
  obtain ⟨g, o, cq, cs, e1, -, -, hr, -, hp⟩ := HT3.out.get (tyAt_tys hat)
  rw [HNN.out] at e1
  obtain ⟨rfl, rfl⟩ := K.sj e1
  obtain ⟨rfl, hznm⟩ := hp
  have hiN : (i : Int) < N := by have := (List.getElem?_eq_some_iff.1 (tyAt_tys hat)).1; rw [HNN.out] at this; omega
  have hi0 : (0 : Int) ≤ i := by omega
  have hineg : ¬ ((i : Int) < 0) := by omega
  have k2 : w3.cell? ⟨q, 2, none⟩ = some (.string (sb f.type)) := HB4.out.cell 2
  have k3 : w3.cell? ⟨q, 3, none⟩ = some (.string (sb f.value)) := HB4.out.cell 3
  have HD : Hid (R = asksK s f) := hid (by rw [← HR.out]; unfold asksD; rw [hat])
  have HD1 := hid (hr 1 _ rfl)
  clear hat hr hznm
  go_wp2_with (first
   | ((with_reducible refine K.atO (.load 25 _) ?_); refine wpL_valZ rfl (.agg #[.slice (some ⟨g, o, none⟩) N vcp, .slice c2 n2 cc2]) (exec_load _ (.tmp 2) rfl b 0 rfl [.slice (some ⟨g, o, none⟩) N vcp, .slice c2 n2 cc2] _ rfl rfl infoSc5 w3 HLD3.out) ?_))
  refine (rnorm13_any _ _ s f.type f.value w3 HT3.out HC3.out HK.out HZ.out.1 HZ.out.2).mono ?_
  rintro e w4 ⟨rfl, f4⟩
  have HF4 := hid (HF3.out.trans' f4)
  have k0 : w4.cell? ⟨q, 0, none⟩ = some (.int .i64 f.kind) := (HB4.out.fr f4 id).cell 0
  have cb : w4.cell? ⟨b, 0, none⟩ = some (.slice (some ⟨g, o, none⟩) N vcp) := (HB3.out.fr f4 id).cell 0
  have d1 : w4.cell? ⟨g, o + i * 6 + 1, none⟩ = some (.int .i64 (tyOf s f.type).syn) := f4.cell HD1.out id
  obtain ⟨ne, hne⟩ : ∃ ne, (normE s f.type f.value).2 = ne := ⟨_, rfl⟩
  obtain ⟨nx, hnx⟩ : ∃ nx, (normE s f.type f.value).1 = nx := ⟨_, rfl⟩
  obtain ⟨sy, hsy⟩ : ∃ sy, (tyOf s f.type).syn = sy := ⟨_, rfl⟩
  obtain ⟨kd, hkd⟩ : ∃ kd, f.kind = kd := ⟨_, rfl⟩
  rw [hsy] at d1
  rw [hkd] at k0
  rw [hne, hnx]
  have HX : Hid (R = if kd = 7 then true else if kd = 4 then decide (sy ≤ 2) else if kd = 3 then decide (ne = 0) else if kd = 5 ∨ kd = 6 then decide (ne = 0) && decide (sy ≤ 3) else false) := hid (by rw [HD.out]; unfold asksK; rw [hsy, hne, hkd])
  clear f4 k2 k3 hne hnx hsy hkd HD HR HD1 HLD3
  by_cases h7 : kd = 7
  ·have HE : Hid (R = true) := hid (by rw [HX.out, if_pos h7])
   subst h7
   go_wp2_with fail
   go_ret
   exact ⟨by rw [HE.out]; rfl, HF4.out⟩
  have b7 := beqN h7
  by_cases h4 : kd = 4
  ·have HE : Hid (R = decide (sy ≤ 2)) := hid (by rw [HX.out, if_neg h7, if_pos h4])
   subst h4
   clear h7
   go_wp2_with fail
   all_goals (go_ret; exact ⟨by rw [HE.out]; first | rfl | simp_all, HF4.out⟩)
  have b4 := beqN h4
  by_cases h3 : kd = 3
  ·have HE : Hid (R = decide (ne = 0)) := hid (by rw [HX.out, if_neg h7, if_neg h4, if_pos h3])
   subst h3
   clear h7 h4
   go_wp2_with fail
   all_goals (go_ret; exact ⟨by rw [HE.out]; first | rfl | simp_all, HF4.out⟩)
  have b3 := beqN h3
  by_cases h56 : kd = 5 ∨ kd = 6
  ·have HE : Hid (R = (decide (ne = 0) && decide (sy ≤ 3))) := hid (by rw [HX.out, if_neg h7, if_neg h4, if_neg h3, if_pos h56])
   clear h7 h4 h3
   by_cases hn0 : ne = 0
   ·subst hn0
    rcases h56 with rfl | rfl
    ·go_wp2_with fail
     all_goals (go_ret; exact ⟨by rw [HE.out]; first | rfl | simp_all, HF4.out⟩)
    ·go_wp2_with fail
     all_goals (go_ret; exact ⟨by rw [HE.out]; first | rfl | simp_all, HF4.out⟩)
   ·have hb := beqN hn0
    have HE2 : Hid (R = false) := hid (by rw [HE.out, decide_eq_false hn0, Bool.false_and])
    rcases h56 with rfl | rfl
    ·go_wp2_with fail
     all_goals (go_ret; exact ⟨by rw [HE2.out]; first | rfl | simp_all, HF4.out⟩)
    ·go_wp2_with fail
     all_goals (go_ret; exact ⟨by rw [HE2.out]; first | rfl | simp_all, HF4.out⟩)
  ·have HE : Hid (R = false) := hid (by rw [HX.out, if_neg h7, if_neg h4, if_neg h3, if_neg h56])
   have b5 := beqN (fun e => h56 (.inl e))
   have b6 := beqN (fun e => h56 (.inr e))
   clear h7 h4 h3 h56
   go_wp2_with fail
   go_ret
   exact ⟨by rw [HE.out]; rfl, HF4.out⟩
theorem retB {a b : Bool} (h : a = b) : Ending.returned (.bool a) = .returned (.bool b) := by rw [h]
theorem holds_any {S S2 T : Nat → Prop} {M : Nat} (vt vc : Value) (s : Sch) (f : Fl) (cs : List Value) (v : B) (w : World) (h : TysIn S w vt s.tys) (hy : ClsIn S2 w vc s.cls) (hk : okS s = true) (hf : FlC M T w f cs) (hv : Sm v) (hat : ∃ i, s.tyAt f.type = some i) :
  Calls Tryz.prog 36 #[.agg #[vt, vc], .agg cs.toArray, .string (sb v)] w fun e w' => e = .returned (.bool (holdsD s f v)) ∧ Fr No w w' := by
 have HT := hid h; have HC := hid hy; have HK := hid hk; have HFL := hid hf; have HV := hid hv
 have HVZ : Hid (Sz v) := hid (by unfold Sm at hv; unfold Sz; omega)
 have HZ := hid hf.szv
 have H7 := hid hf.seven
 obtain ⟨va, vcp, e0, -, hle⟩ := h.form
 obtain ⟨c2, n2, cc2, e2⟩ : ∃ a n c, vc = .slice a n c := by obtain ⟨a, c, e, -⟩ := hy.form; exact ⟨_, _, _, e⟩
 obtain ⟨N, hN⟩ : ∃ N, s.tys.length = N := ⟨_, rfl⟩
 have HNN := hid hN
 subst e0 e2
 rw [hN] at HT hle ⊢
 have hNi : (N : Int) ≤ 140737488351232 := by omega
 obtain ⟨ka, kc, aa, ac, rfl, -⟩ := hf.form
 obtain ⟨i, hi⟩ := hat
 have HAT := hid hi
 obtain ⟨R, hR⟩ : ∃ R, holdsD s f v = R := ⟨_, rfl⟩
 have HR := hid hR
 rw [hR]
 clear h hy hk hN hle hf hR hv hi
 go_enter Tryz.func36, Tryz.ntmps36
 go_wp2_with (first
  | ((with_reducible refine K.atO (.box 25 _) ?_); refine wpL_box rfl _ _ rfl _ rfl [.slice va N vcp, .slice c2 n2 cc2] rfl ?_; intro w1 HB1 HF1 HS1)
  | ((with_reducible refine K.atO (.box 39 _) ?_); refine wpL_box rfl _ _ rfl _ rfl (flV f (.slice ka f.kids.length kc) (.slice aa f.any.length ac)) rfl ?_; intro w2 HB2 HF2 HS2; refine Hid.out ?_))
 obtain ⟨b, hb⟩ : ∃ b, w.heap.size = b := ⟨_, rfl⟩
 obtain ⟨q, hq⟩ : ∃ q, w1.heap.size = q := ⟨_, rfl⟩
 rw [hb] at HB1 ⊢
 rw [hq] at HB2 ⊢
 have HB1' := hid (HB1.out.fr HF2.out id)
 have HF := hid (HF1.out.trans' HF2.out)
 have HT1 := hid (TysIn.fr (D := No) HT.out HF.out (fun _ _ _ e => e)); have HC1 := hid (ClsIn.fr (D := No) HC.out HF.out (fun _ _ _ e => e))
 have HFL1 := hid (HFL.out.no HF.out)
 have HLD := hid (HB1'.out.range 0 [.slice va N vcp, .slice c2 n2 cc2] rfl)
 have k0 : w2.cell? ⟨q, 0, none⟩ = some (.int .i64 f.kind) := HB2.out.cell 0
 have k2 : w2.cell? ⟨q, 2, none⟩ = some (.string (sb f.type)) := HB2.out.cell 2
 have k3 : w2.cell? ⟨q, 3, none⟩ = some (.string (sb f.value)) := HB2.out.cell 3
 clear hb hq HS1 HS2 HB1 HF1 HF2
 refine hid ?_
 by_cases h4 : f.kind = 4
 ·rw [h4] at k0
  have HX : Hid (R = matchD (tyOf s f.type).syn v f) := hid (by rw [← HR.out]; unfold holdsD; rw [if_pos h4])
  clear h4 k3 HR
  go_wp2_with (first
   | ((with_reducible refine K.atO (.load 25 _) ?_); refine wpL_valZ rfl (.agg #[.slice va N vcp, .slice c2 n2 cc2]) (exec_load _ (.tmp 3) rfl b 0 rfl [.slice va N vcp, .slice c2 n2 cc2] _ rfl rfl infoSc5 w2 HLD.out) ?_))
  refine (rfind_any _ _ s f.type w2 HT1.out HC1.out HZ.out.1).mono ?_
  rintro e w3 ⟨rfl, f3⟩
  rw [tyAt_idx, HAT.out]
  have HF3 := hid (HF.out.trans' f3)
  have HT3 := hid (TysIn.fr (D := No) HT1.out f3 (fun _ _ _ e => e))
  have HFL3 := hid (HFL1.out.no f3)
  have HB3 := hid (HB1'.out.fr f3 id); have HB4 := hid (HB2.out.fr f3 id)
  obtain ⟨g, o, cq, cs, e1, -, -, hr, -, hp⟩ := HT3.out.get (tyAt_tys HAT.out)
  rw [HNN.out] at e1
  obtain ⟨rfl, rfl⟩ := K.sj e1
  obtain ⟨rfl, hznm⟩ := hp
  have d1 : w3.cell? ⟨g, o + i * 6 + 1, none⟩ = some (.int .i64 (tyOf s f.type).syn) := hr 1 _ rfl
  have hiN : (i : Int) < N := by have := (List.getElem?_eq_some_iff.1 (tyAt_tys HAT.out)).1; rw [HNN.out] at this; omega
  have hi0 : (0 : Int) ≤ i := by omega
  have cb : w3.cell? ⟨b, 0, none⟩ = some (.slice (some ⟨g, o, none⟩) N vcp) := HB3.out.cell 0
  have cq : w3.rangeAt q 0 (flV f (.slice ka f.kids.length kc) (.slice aa f.any.length ac)) := HB4.out.range 0 _ rfl
  clear hr hznm f3 k0 k2 HT1 HC1 HFL1 HB1' HB2 HLD HF HB3 HB4
  go_wp2_with fail
  have hold : Facts.hold [(1, fun w' => w'.cell? ⟨b, 0, none⟩ = some (.slice (some ⟨g, o, none⟩) N vcp)), (5, fun w' => w'.cell? ⟨g, o + i * 6 + 1, none⟩ = some (.int .i64 (tyOf s f.type).syn)), (7, fun w' => w'.rangeAt q 0 (flV f (.slice ka f.kids.length kc) (.slice aa f.any.length ac)))] w3.drew := Facts.cons_hold cb (Facts.cons_hold d1 (Facts.cons_hold cq (Facts.nil_hold _)))
  refine wpD_region hold (by kernel_rfl) 10 rfl ?_
  (refine K.pl 0 (v := ?_) rfl ?_ ?_; rotate_left; (intro; go_simp; try with_reducible rfl); simp only [K.pu])
  (refine K.tk 1 _ rfl K.m0 (v := ?_) ?_ ?_; rotate_left; (intro _ _hw; go_simp; try with_reducible rfl); simp only [K.pu])
  (refine K.pl 2 (v := ?_) rfl ?_ ?_; rotate_left; (intro; go_simp; try with_reducible rfl); simp only [K.pu])
  (refine K.pl 3 (v := ?_) rfl ?_ ?_; rotate_left; (intro; go_simp; try with_reducible rfl); simp only [K.pu])
  (refine K.pl 4 (v := ?_) rfl ?_ ?_; rotate_left; (intro; go_simp; try with_reducible rfl); simp only [K.pu])
  (refine K.tk 5 _ rfl K.m1 (v := ?_) ?_ ?_; rotate_left; (intro _ _hw; go_simp; try with_reducible rfl); simp only [K.pu])
  (refine K.pl 6 (v := ?_) rfl ?_ ?_; rotate_left; (intro; go_simp; try with_reducible rfl); simp only [K.pu])
  (refine K.tk 7 _ rfl K.m2 (exec_load _ _ rfl q 0 rfl _ _ rfl rfl infoFl) ?_; simp only [K.pu])
  clear hold
  refine K.on 8 [(1, fun w' => w'.cell? ⟨b, 0, none⟩ = some (.slice (some ⟨g, o, none⟩) N vcp))] rfl (fun K8 hK8 => ?_)
  refine wp_call _ _ _ rfl 67 [] rfl (fun vs w => by kernel_rfl) [.int .i64 (tyOf s f.type).syn, .string (sb v), .agg (flV f (.slice ka f.kids.length kc) (.slice aa f.any.length ac)).toArray] (by rfl) ?_
  refine (matched_any (tyOf s f.type).syn v f _ w3.drew HV.out (HFL3.out.no (Fr.refl No w3).drew)).mono ?_
  rintro e w5 ⟨rfl, f5⟩
  have HF5 : Hid (Fr No w w5) := hid ((HF3.out.trans' (Fr.refl No w3).drew).trans' f5)
  have cb5 : w5.cell? ⟨b, 0, none⟩ = some (.slice (some ⟨g, o, none⟩) N vcp) := ((Fr.refl No w3).drew.trans' f5).cell cb id
  have hold : Facts.hold [(1, fun w' => w'.cell? ⟨b, 0, none⟩ = some (.slice (some ⟨g, o, none⟩) N vcp))] w5 := Facts.cons_hold cb5 (Facts.nil_hold _)
  refine ⟨_, rfl, hK8 _ _ hold ?_⟩
  clear hK8 K8 f5 d1 cb cq cb5
  simp only [K.pu]
  (refine K.pl 9 (v := ?_) rfl ?_ ?_; rotate_left; (intro; go_simp; try with_reducible rfl); simp only [K.pu])
  clear hold
  refine wpD_done (by kernel_rfl) ?_ _
  go_wp2_with fail
  go_ret
  exact ⟨by rw [HX.out]; rfl, HF5.out⟩
 ·obtain ⟨kd, hkd⟩ : ∃ kd, f.kind = kd := ⟨_, rfl⟩
  have HX : Hid (R = if (cmpE s f.type v f.value).2 = 0 then isOrd kd (cmpE s f.type v f.value).1 else false) := hid (by rw [← HR.out]; unfold holdsD; rw [if_neg h4, hkd])
  rw [hkd] at k0 h4
  have b4 := beqN h4
  clear hkd h4 HR
  go_wp2_with (first
   | ((with_reducible refine K.atO (.load 25 _) ?_); refine wpL_valZ rfl (.agg #[.slice va N vcp, .slice c2 n2 cc2]) (exec_load _ (.tmp 3) rfl b 0 rfl [.slice va N vcp, .slice c2 n2 cc2] _ rfl rfl infoSc5 w2 HLD.out) ?_))
  refine (rcompare_any _ _ s f.type v f.value w2 HT1.out HC1.out HK.out HZ.out.1 HVZ.out HZ.out.2).mono ?_
  rintro e w3 ⟨rfl, f3⟩
  have HF3 := hid (HF.out.trans' f3)
  have k0' : w3.cell? ⟨q, 0, none⟩ = some (.int .i64 kd) := by rw [← k0]; exact f3.cell k0 id |>.trans k0.symm
  obtain ⟨n, hn⟩ : ∃ n, (cmpE s f.type v f.value).1 = n := ⟨_, rfl⟩
  obtain ⟨e, he⟩ : ∃ e, (cmpE s f.type v f.value).2 = e := ⟨_, rfl⟩
  rw [hn, he]
  rw [hn, he] at HX
  clear f3 k0 k2 k3 hn he HT1 HC1 HFL1 HB1' HB2 HLD HF
  by_cases he : e = 0
  ·subst he
   have HX2 : Hid (R = isOrd kd n) := hid (by rw [HX.out, if_pos rfl])
   clear HX
   rcases Int.lt_trichotomy n 0 with hn | hn | hn
   ·have b0 := beqN (show ¬ n = 0 by omega)
    have hg : ¬ n > 0 := by omega
    by_cases h5 : kd = 5
    ·have HE : Hid (R = false) := hid (by rw [HX2.out]; unfold isOrd; rw [if_pos h5]; exact decide_eq_false (by omega))
     subst h5
     go_wp2_with fail
     go_ret
     exact ⟨by rw [HE.out]; first | rfl | exact retB (decide_eq_true (by omega)) | exact retB (decide_eq_false (by omega)), HF3.out⟩
    ·have b5 := beqN h5
     by_cases h6 : kd = 6
     ·have HE : Hid (R = true) := hid (by rw [HX2.out]; unfold isOrd; rw [if_neg h5, if_pos h6]; exact decide_eq_true (by omega))
      subst h6
      clear h5
      go_wp2_with fail
      go_ret
      exact ⟨by rw [HE.out]; first | rfl | exact retB (decide_eq_true (by omega)) | exact retB (decide_eq_false (by omega)), HF3.out⟩
     ·have b6 := beqN h6
      have HE : Hid (R = false) := hid (by rw [HX2.out]; unfold isOrd; rw [if_neg h5, if_neg h6]; exact decide_eq_false (by omega))
      clear h5 h6
      go_wp2_with fail
      go_ret
      exact ⟨by rw [HE.out]; first | rfl | exact retB (decide_eq_true (by omega)) | exact retB (decide_eq_false (by omega)), HF3.out⟩
   ·subst hn
    have HE : Hid (R = true) := hid (by rw [HX2.out]; unfold isOrd; split <;> (try split) <;> rfl)
    go_wp2_with fail
    go_ret
    exact ⟨by rw [HE.out]; first | rfl | exact retB (decide_eq_true (by omega)) | exact retB (decide_eq_false (by omega)), HF3.out⟩
   ·have b0 := beqN (show ¬ n = 0 by omega)
    have hg : ¬ n < 0 := by omega
    by_cases h5 : kd = 5
    ·have HE : Hid (R = true) := hid (by rw [HX2.out]; unfold isOrd; rw [if_pos h5]; exact decide_eq_true (by omega))
     subst h5
     go_wp2_with fail
     go_ret
     exact ⟨by rw [HE.out]; first | rfl | exact retB (decide_eq_true (by omega)) | exact retB (decide_eq_false (by omega)), HF3.out⟩
    ·have b5 := beqN h5
     by_cases h6 : kd = 6
     ·have HE : Hid (R = false) := hid (by rw [HX2.out]; unfold isOrd; rw [if_neg h5, if_pos h6]; exact decide_eq_false (by omega))
      subst h6
      clear h5
      go_wp2_with fail
      go_ret
      exact ⟨by rw [HE.out]; first | rfl | exact retB (decide_eq_true (by omega)) | exact retB (decide_eq_false (by omega)), HF3.out⟩
     ·have b6 := beqN h6
      have HE : Hid (R = false) := hid (by rw [HX2.out]; unfold isOrd; rw [if_neg h5, if_neg h6]; exact decide_eq_false (by omega))
      clear h5 h6
      go_wp2_with fail
      go_ret
      exact ⟨by rw [HE.out]; first | rfl | exact retB (decide_eq_true (by omega)) | exact retB (decide_eq_false (by omega)), HF3.out⟩
  ·have HE : Hid (R = false) := hid (by rw [HX.out, if_neg he])
   have be := beqN he
   go_wp2_with fail
   go_ret
   exact ⟨by rw [HE.out]; first | rfl | exact retB (decide_eq_true (by omega)) | exact retB (decide_eq_false (by omega)), HF3.out⟩
end Go.Proofs.YtgbiicipkbpmeaaGreatDoor.FT
