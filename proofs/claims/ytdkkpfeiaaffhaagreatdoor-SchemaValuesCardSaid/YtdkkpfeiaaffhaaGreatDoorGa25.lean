/-
  Part 25 of the proof: FtC3, FtSv.
-/
import Derived.Test.YtdkkpfeiaaffhaaGreatDoorGa24
import Derived.Test.YtdkkpfeiaaffhaaGreatDoorGa15
import Derived.Test.YtdkkpfeiaaffhaaGreatDoorGa19
set_option linter.unusedSimpArgs false
set_option linter.unusedVariables false
namespace Go.Proofs.YtdkkpfeiaaffhaaGreatDoor.FT
set_option maxRecDepth 100000
open Go.RowKit K Go.Proofs.YtdkkpfeiaaffhaaGreatDoor.BE Go.Proofs.YtdkkpfeiaaffhaaGreatDoor.DN Go.Proofs.YtdkkpfeiaaffhaaGreatDoor.SC

theorem binOp_lssS (t : TypeId) (a b : ByteArray) : binOp .lss t (.string a) (.string b) = pure (.bool (Op.bytesLess a.toList b.toList)) := by simp [binOp, Op.stringOp]
theorem exec_lssS {op : Oper} {a : Act} (x y : Operand) (u : TypeId) (ho : op.op = .binOp .lss 9 x y u) (p q : B) (hx : a.eval x = .string (sb p)) (hy : a.eval y = .string (sb q)) (r : Bool) (hr : ltB p q = r) (w : World) :
    (execOp a.eval op).run Tryz.prog w = .ok (.value (.bool r)) w := by
  subst hr
  unfold execOp
  simp only [ho, hx, hy]
  rw [binOp_lssS, ByteArray.toList_eq, ByteArray.toList_eq, sb_list, sb_list, less_ltB]
  simp [go_sem, eqGuard, Result.andThen]
theorem num_len {v : B} {m : Int} (h : numV v = some m) : v.length ≤ 4294967000 := by
  unfold numV at h
  by_cases h48 : v = [48]
  · rw [h48]; decide
  · rw [if_neg h48] at h
    cases v with
    | nil => decide
    | cons c r =>
      simp only at h
      have key : ∀ l : B, isDs l = true → l.length ≤ 9 := fun l hl => by
        unfold isDs at hl
        simp only [Bool.and_eq_true, decide_eq_true_eq] at hl
        exact hl.1.2
      by_cases hc : c.toNat = 45
      · rw [if_pos hc] at h
        by_cases hd : isDs r = true
        · have := key r hd; simp only [List.length_cons]; omega
        · rw [if_neg hd] at h; cases h
      · rw [if_neg hc] at h
        by_cases hd : isDs (c :: r) = true
        · have := key _ hd; omega
        · rw [if_neg hd] at h; cases h
theorem cb_is (x y : B) : Lib.compareBytes x y = if x = y then 0 else if ltB x y then -1 else 1 := by
  by_cases h : x = y
  · rw [if_pos h]; exact (cb_zero x y).2 h
  · rw [if_neg h]
    have h1 := cmp_lt x y
    have h2 : Lib.compareBytes x y ≠ 0 := fun e => h ((cb_zero x y).1 e)
    have h3 := cb_val x y
    cases hl : ltB x y with
    | true =>
      rw [hl, decide_eq_true_eq] at h1
      rw [if_pos rfl]; omega
    | false =>
      rw [hl, decide_eq_false_iff_not] at h1
      rw [if_neg (by decide)]; omega
theorem sgn_is {x y : B} {m n : Int} (hx : numV x = some m) (hy : numV y = some n) : sgn m n = if x = y then 0 else if m < n then -1 else 1 := by
  unfold sgn
  by_cases h : x = y
  · subst h
    rw [hx] at hy
    cases hy
    rw [if_pos rfl, if_neg (by omega), if_neg (by omega)]
  · rw [if_neg h]
    have hne : m ≠ n := by
      rintro rfl
      obtain ⟨-, h1, -⟩ := num_back hx
      obtain ⟨-, h2, -⟩ := num_back hy
      exact h (h1.symm.trans h2)
    by_cases hl : m < n
    · rw [if_pos hl, if_pos hl]
    · rw [if_neg hl, if_neg hl, if_pos (by omega)]
set_option maxHeartbeats 32000000 in
theorem rcompare_any {S S2 : Nat → Prop} (vt vc : Value) (s : Sch) (n x y : B) (w : World) (h : TysIn S w vt s.tys) (hy : ClsIn S2 w vc s.cls) (hk : okS s = true) (hn : Sz n) (hzx : Sz x) (hzy : Sz y) :
    Calls Tryz.prog 16 #[.agg #[vt, vc], .string (sb n), .string (sb x), .string (sb y)] w fun e w' => e = .returned (.tuple #[.int .i64 (cmpE s n x y).1, .int .i64 (cmpE s n x y).2]) ∧ Fr No w w' := by
  have HT := hid h; have HC := hid hy; have HK := hid hk; have HN := hid hn; have HZ := hid (show Sz x ∧ Sz y from ⟨hzx, hzy⟩)
  have HSZ := hid (show Sz (normE s n x).1 ∧ Sz (normE s n y).1 from ⟨normE_sz hzx, normE_sz hzy⟩)
  obtain ⟨va, vcp, e0, -, hle⟩ := h.form
  obtain ⟨c2, n2, cc2, e2⟩ : ∃ a n c, vc = .slice a n c := by obtain ⟨a, c, e, -⟩ := hy.form; exact ⟨_, _, _, e⟩
  obtain ⟨N, hN⟩ : ∃ N, s.tys.length = N := ⟨_, rfl⟩
  have HNN := hid hN
  subst e0 e2
  rw [hN] at HT hle ⊢
  have hNi : (N : Int) ≤ 140737488351232 := by omega
  obtain ⟨E1, hE1⟩ : ∃ E1, (normE s n x).2 = E1 := ⟨_, rfl⟩
  obtain ⟨E2, hE2⟩ : ∃ E2, (normE s n y).2 = E2 := ⟨_, rfl⟩
  obtain ⟨p, hp⟩ : ∃ p, (normE s n x).1 = p := ⟨_, rfl⟩
  obtain ⟨q, hq⟩ : ∃ q, (normE s n y).1 = q := ⟨_, rfl⟩
  have HE1 := hid hE1; have HE2 := hid hE2; have HP := hid hp; have HQ := hid hq
  clear h hy hk hn hzx hzy hN hle hE1 hE2 hp hq
  go_enter Tryz.func16, Tryz.ntmps16
  go_wp2_with (first
    | ((with_reducible refine K.atO (.box 25 _) ?_); refine wpL_box rfl _ _ rfl _ rfl [.slice va N vcp, .slice c2 n2 cc2] rfl ?_; intro w1 HB1 HF1 HS1; refine Hid.out ?_)
    | fail)
  obtain ⟨b, hb⟩ : ∃ b, w.heap.size = b := ⟨_, rfl⟩
  rw [hb] at HB1 ⊢
  have HT1 := hid (TysIn.fr (D := No) HT.out HF1.out (fun _ _ _ e => e)); have HC1 := hid (ClsIn.fr (D := No) HC.out HF1.out (fun _ _ _ e => e))
  have HLD := hid (HB1.out.range 0 [.slice va N vcp, .slice c2 n2 cc2] rfl)
  clear hb HS1
  refine hid ?_
  go_wp2_with (first
    | ((with_reducible refine K.atO (.load 25 _) ?_); refine wpL_valZ rfl (.agg #[.slice va N vcp, .slice c2 n2 cc2]) (exec_load _ (.tmp 4) rfl b 0 rfl [.slice va N vcp, .slice c2 n2 cc2] _ rfl rfl infoSc5 w1 HLD.out) ?_)
    | fail)
  refine (rnorm13_any _ _ s n x w1 HT1.out HC1.out HK.out HN.out HZ.out.1).mono ?_
  rintro e w2 ⟨rfl, f2⟩
  rw [HE1.out, HP.out]
  have HF2 := hid (HF1.out.trans' f2); have HB2 := hid (HB1.out.fr f2 id)
  have HT2 := hid (TysIn.fr (D := No) HT1.out f2 (fun _ _ _ e => e)); have HC2 := hid (ClsIn.fr (D := No) HC1.out f2 (fun _ _ _ e => e))
  have HLD2 := hid (f2.range HLD.out id)
  clear f2 HLD
  by_cases h1 : E1 = 0
  case neg =>
    have HR : Hid (cmpE s n x y = (0, E1)) := hid (by unfold cmpE; rw [HE1.out, if_neg h1])
    have h1b : (E1 != 0) = true := by rw [bne_iff_ne]; exact h1
    have h1c : (E1 == 0) = false := beqN h1
    clear h1
    go_wp2_with fail
    go_ret2
    exact ⟨by rw [HR.out]; rfl, HF2.out⟩
  subst h1
  go_wp2_with (first
    | ((with_reducible refine K.atO (.load 25 _) ?_); refine wpL_valZ rfl (.agg #[.slice va N vcp, .slice c2 n2 cc2]) (exec_load _ (.tmp 4) rfl b 0 rfl [.slice va N vcp, .slice c2 n2 cc2] _ rfl rfl infoSc5 w2 HLD2.out) ?_)
    | fail)
  refine (rnorm13_any _ _ s n y w2 HT2.out HC2.out HK.out HN.out HZ.out.2).mono ?_
  rintro e w3 ⟨rfl, f3⟩
  rw [HE2.out, HQ.out]
  have HF3 := hid (HF2.out.trans' f3); have HB3 := hid (HB2.out.fr f3 id)
  have HT3 := hid (TysIn.fr (D := No) HT2.out f3 (fun _ _ _ e => e)); have HC3 := hid (ClsIn.fr (D := No) HC2.out f3 (fun _ _ _ e => e))
  clear f3 HLD2
  by_cases h2 : E2 = 0
  case neg =>
    have HR : Hid (cmpE s n x y = (0, E2)) := hid (by unfold cmpE; rw [HE1.out, if_pos rfl, HE2.out, if_neg h2])
    have h2b : (E2 != 0) = true := by rw [bne_iff_ne]; exact h2
    have h2c : (E2 == 0) = false := beqN h2
    clear h2
    go_wp2_with fail
    go_ret2
    exact ⟨by rw [HR.out]; rfl, HF3.out⟩
  subst h2
  have HR : Hid (cmpE s n x y = (cmpV (synOf s n) p q, 0)) := hid (by unfold cmpE; rw [HE1.out, if_pos rfl, HE2.out, if_pos rfl, HP.out, HQ.out])
  obtain ⟨i, hat⟩ := normE_at HE1.out
  obtain ⟨g, o, cq, cs, e1, -, -, hr, -, hpp⟩ := HT3.out.get (tyAt_tys hat)
  rw [HNN.out] at e1
  simp only [Value.slice.injEq, true_and] at e1
  obtain ⟨rfl, rfl⟩ := e1
  obtain ⟨rfl, hznm⟩ := hpp
  have HD1 : Hid (w3.drew.cell? ⟨g, o + i * 6 + 1, none⟩ = some (.int .i64 (tyOf s n).syn)) := hid (hr 1 _ rfl)
  have hiN : (i : Int) < N := by have := (List.getElem?_eq_some_iff.1 (tyAt_tys hat)).1; rw [HNN.out] at this; omega
  have hi0 : (0 : Int) ≤ i := by omega
  have HSY := hid (synOf_ty s n i hat)
  have HFI : Hid (idxI s.tys (fun a => low a.nm == low n) = (i : Int)) := hid (by rw [tyAt_idx, hat])
  have HNM : Hid ((tyOf s n).syn = 3 → ∃ m k, numV p = some m ∧ numV q = some k) := hid (fun h3 => by
    obtain ⟨m, hm⟩ := norm_num hat h3 HE1.out
    obtain ⟨k, hk⟩ := norm_num hat h3 HE2.out
    rw [HP.out] at hm
    rw [HQ.out] at hk
    exact ⟨m, k, hm, hk⟩)
  obtain ⟨sy, hsy⟩ : ∃ sy, (tyOf s n).syn = sy := ⟨_, rfl⟩
  rw [hsy] at HD1 HSY HNM
  rw [HSY.out] at HR
  have HC0 : Hid (w3.drew.cell? ⟨b, 0, none⟩ = some (.slice (some ⟨g, o, none⟩) N vcp)) := hid (HB3.out.cell 0)
  have HCR : Hid (w3.drew.rangeAt b 0 [.slice (some ⟨g, o, none⟩) N vcp, .slice c2 n2 cc2]) := hid (HB3.out.range 0 [.slice (some ⟨g, o, none⟩) N vcp, .slice c2 n2 cc2] rfl)
  have HT3d : Hid (TysIn S w3.drew (.slice (some ⟨g, o, none⟩) N vcp) s.tys) := hid (TysIn.fr (D := No) HT3.out (Fr.refl No w3).drew (fun _ _ _ e => e))
  have HC3d : Hid (ClsIn S2 w3.drew (.slice c2 n2 cc2) s.cls) := hid (ClsIn.fr (D := No) HC3.out (Fr.refl No w3).drew (fun _ _ _ e => e))
  obtain ⟨lt, hlt⟩ : ∃ lt, ltB p q = lt := ⟨_, rfl⟩
  have HLT := hid hlt
  clear hat hr hznm hsy hlt
  go_wp2_with (first
    | ((with_reducible refine K.atO (.binOp .lss 9 _ _ _) ?_); refine wpL_valZ rfl (.bool lt) (exec_lssS _ _ _ rfl p q rfl rfl _ HLT.out _) ?_)
    | fail)
  have d0 := HC0.out; have d1 := HD1.out; have dr := HCR.out
  have hold : Facts.hold [(1, fun w' => w'.cell? ⟨b, 0, none⟩ = some (.slice (some ⟨g, o, none⟩) N vcp)), (2, fun w' => w'.rangeAt b 0 [.slice (some ⟨g, o, none⟩) N vcp, .slice c2 n2 cc2]), (7, fun w' => w'.cell? ⟨g, o + i * 6 + 1, none⟩ = some (.int .i64 sy))] w3.drew := Facts.cons_hold d0 (Facts.cons_hold dr (Facts.cons_hold d1 (Facts.nil_hold _)))
  refine wpD_region hold (by kernel_rfl) 9 rfl ?_
  (refine wpD_plain 0 (v := ?_) rfl (by kernel_rfl) (by kernel_rfl) (by kernel_rfl) (fun _ _ _ h => h) (by rfl) ?_ (by assumption) ?_; rotate_left; (intro _w; go_simp; try with_reducible rfl); simp only [Act.put, K.put3])
  (refine wpD_take 1 _ rfl (by kernel_rfl) (by kernel_rfl) (by kernel_rfl) (fun _ _ _ h => h) List.mem_cons_self (by rfl) (v := ?_) ?_ (by assumption) ?_; rotate_left; (intro _w _hw; go_simp; try with_reducible rfl); simp only [Act.put, K.put3])
  (refine wpD_take 2 _ rfl (by kernel_rfl) (by kernel_rfl) (by kernel_rfl) (fun _ _ _ h => h) (List.mem_cons_of_mem _ List.mem_cons_self) (by rfl) (exec_load _ _ rfl b 0 rfl _ _ rfl rfl infoSc5) (by assumption) ?_; simp only [Act.put, K.put3])
  (refine wpD_plain 3 (v := ?_) rfl (by kernel_rfl) (by kernel_rfl) (by kernel_rfl) (fun _ _ _ h => h) (by rfl) ?_ (by assumption) ?_; rotate_left; (intro _w; go_simp; try with_reducible rfl); simp only [Act.put, K.put3])
  clear hold d0 d1 dr
  refine wpD_only 4 [(1, fun w' => w'.cell? ⟨b, 0, none⟩ = some (.slice (some ⟨g, o, none⟩) N vcp)), (7, fun w' => w'.cell? ⟨g, o + i * 6 + 1, none⟩ = some (.int .i64 sy))] rfl (by kernel_rfl) (by kernel_rfl) (by rfl) (fun K4 hK4 => ?_)
  refine wp_call (.func 37) _ _ rfl 37 [] rfl (fun vs w => by kernel_rfl) [.agg #[.slice (some ⟨g, o, none⟩) N vcp, .slice c2 n2 cc2], .string (sb n)] (by rfl) ?_
  refine (rfind_any _ _ s n w3.drew HT3d.out HC3d.out HN.out).mono ?_
  rintro e w4 ⟨rfl, f4⟩
  rw [HFI.out]
  have d0 : w4.cell? ⟨b, 0, none⟩ = some (.slice (some ⟨g, o, none⟩) N vcp) := f4.cell HC0.out id
  have d1 : w4.cell? ⟨g, o + i * 6 + 1, none⟩ = some (.int .i64 sy) := f4.cell HD1.out id
  have HF4 := hid (HF3.out.trans' ((Fr.refl No w3).drew.trans' f4))
  refine ⟨_, rfl, hK4 _ _ (Facts.cons_hold d0 (Facts.cons_hold d1 (Facts.nil_hold _))) ?_⟩
  clear hK4 K4 f4
  simp only [Act.put, K.put3]
  have hold : Facts.hold [(1, fun w' => w'.cell? ⟨b, 0, none⟩ = some (.slice (some ⟨g, o, none⟩) N vcp)), (7, fun w' => w'.cell? ⟨g, o + i * 6 + 1, none⟩ = some (.int .i64 sy))] w4 := Facts.cons_hold d0 (Facts.cons_hold d1 (Facts.nil_hold _))
  (refine wpD_plain 5 (v := ?_) rfl (by kernel_rfl) (by kernel_rfl) (by kernel_rfl) (fun _ _ _ h => h) (by rfl) ?_ (by assumption) ?_; rotate_left; (intro _w; go_simp; try with_reducible rfl); simp only [Act.put, K.put3])
  (refine wpD_plain 6 (v := ?_) rfl (by kernel_rfl) (by kernel_rfl) (by kernel_rfl) (fun _ _ _ h => h) (by rfl) ?_ (by assumption) ?_; rotate_left; (intro _w; go_simp; try with_reducible rfl); simp only [Act.put, K.put3])
  (refine wpD_take 7 _ rfl (by kernel_rfl) (by kernel_rfl) (by kernel_rfl) (fun _ _ _ h => h) (List.mem_cons_of_mem _ List.mem_cons_self) (by rfl) (v := ?_) ?_ (by assumption) ?_; rotate_left; (intro _w _hw; go_simp; try with_reducible rfl); simp only [Act.put, K.put3])
  by_cases h3 : sy = 3
  · have hs3 := beqI h3
    obtain ⟨mx, my, hmx, hmy⟩ := HNM.out h3
    have HMX := hid hmx; have HMY := hid hmy
    have HCV : Hid (cmpE s n x y = (if p = q then 0 else if mx < my then -1 else 1, 0)) := hid (by
      rw [HR.out]
      unfold cmpV
      rw [if_pos h3, hmx, hmy]
      show (sgn mx my, (0 : Int)) = _
      rw [sgn_is hmx hmy])
    clear h3 hmx hmy
    (refine wpD_plain 8 (v := ?_) rfl (by kernel_rfl) (by kernel_rfl) (by kernel_rfl) (fun _ _ _ h => h) (by rfl) ?_ (by assumption) ?_; rotate_left; (intro _w; go_simp; try with_reducible rfl); simp only [Act.put, K.put3])
    clear hold d0 d1
    refine wpD_done (by kernel_rfl) ?_ _
    go_wp2_with fail
    refine (whole_any p mx HMX.out (num_len HMX.out) w4).mono ?_
    rintro e w5 ⟨rfl, f5⟩
    have HF5 := hid (HF4.out.trans' f5)
    clear f5
    go_wp2_with fail
    refine (whole_any q my HMY.out (num_len HMY.out) w5).mono ?_
    rintro e w6 ⟨rfl, f6⟩
    have HF6 := hid (HF5.out.trans' f6)
    clear f6
    by_cases hpq : p = q
    · have HDE := hid (show decide (p = q) = true from decide_eq_true hpq)
      have HFIN : Hid (cmpE s n x y = (0, 0)) := hid (by rw [HCV.out, if_pos hpq])
      clear hpq
      go_wp2_with (first
        | ((with_reducible refine K.atO (.binOp .eql 9 _ _ _) ?_); refine wpL_valZ rfl (.bool true) (exec_eqQ _ _ _ rfl p q rfl rfl _ HDE.out rfl rfl _) ?_)
        | fail)
      go_ret2
      exact ⟨by rw [HFIN.out]; rfl, HF6.out⟩
    · have HDE := hid (show decide (p = q) = false from decide_eq_false hpq)
      by_cases hl : mx < my
      · have HFIN : Hid (cmpE s n x y = (-1, 0)) := hid (by rw [HCV.out, if_neg hpq, if_pos hl])
        clear hpq
        go_wp2_with (first
          | ((with_reducible refine K.atO (.binOp .eql 9 _ _ _) ?_); refine wpL_valZ rfl (.bool false) (exec_eqQ _ _ _ rfl p q rfl rfl _ HDE.out rfl rfl _) ?_)
          | fail)
        go_ret2
        exact ⟨by rw [HFIN.out]; rfl, HF6.out⟩
      · have HFIN : Hid (cmpE s n x y = (1, 0)) := hid (by rw [HCV.out, if_neg hpq, if_neg hl])
        clear hpq
        go_wp2_with (first
          | ((with_reducible refine K.atO (.binOp .eql 9 _ _ _) ?_); refine wpL_valZ rfl (.bool false) (exec_eqQ _ _ _ rfl p q rfl rfl _ HDE.out rfl rfl _) ?_)
          | fail)
        go_ret2
        exact ⟨by rw [HFIN.out]; rfl, HF6.out⟩
  · have hs3 := beqN h3
    have HCV : Hid (cmpE s n x y = (if p = q then 0 else if lt then -1 else 1, 0)) := hid (by
      rw [HR.out]
      unfold cmpV
      rw [if_neg h3, cb_is, HLT.out])
    clear h3
    (refine wpD_plain 8 (v := ?_) rfl (by kernel_rfl) (by kernel_rfl) (by kernel_rfl) (fun _ _ _ h => h) (by rfl) ?_ (by assumption) ?_; rotate_left; (intro _w; go_simp; try with_reducible rfl); simp only [Act.put, K.put3])
    clear hold d0 d1
    refine wpD_done (by kernel_rfl) ?_ _
    by_cases hpq : p = q
    · have HDE := hid (show decide (p = q) = true from decide_eq_true hpq)
      have HFIN : Hid (cmpE s n x y = (0, 0)) := hid (by rw [HCV.out, if_pos hpq])
      clear hpq
      go_wp2_with (first
        | ((with_reducible refine K.atO (.binOp .eql 9 _ _ _) ?_); refine wpL_valZ rfl (.bool true) (exec_eqQ _ _ _ rfl p q rfl rfl _ HDE.out rfl rfl _) ?_)
        | fail)
      go_ret2
      exact ⟨by rw [HFIN.out]; rfl, HF4.out⟩
    · have HDE := hid (show decide (p = q) = false from decide_eq_false hpq)
      cases lt with
      | true =>
        have HFIN : Hid (cmpE s n x y = (-1, 0)) := hid (by rw [HCV.out, if_neg hpq]; rfl)
        clear hpq
        go_wp2_with (first
          | ((with_reducible refine K.atO (.binOp .eql 9 _ _ _) ?_); refine wpL_valZ rfl (.bool false) (exec_eqQ _ _ _ rfl p q rfl rfl _ HDE.out rfl rfl _) ?_)
          | fail)
        go_ret2
        exact ⟨by rw [HFIN.out]; rfl, HF4.out⟩
      | false =>
        have HFIN : Hid (cmpE s n x y = (1, 0)) := hid (by rw [HCV.out, if_neg hpq]; rfl)
        clear hpq
        go_wp2_with (first
          | ((with_reducible refine K.atO (.binOp .eql 9 _ _ _) ?_); refine wpL_valZ rfl (.bool false) (exec_eqQ _ _ _ rfl p q rfl rfl _ HDE.out rfl rfl _) ?_)
          | fail)
        go_ret2
        exact ⟨by rw [HFIN.out]; rfl, HF4.out⟩
end Go.Proofs.YtdkkpfeiaaffhaaGreatDoor.FT

namespace Go.Proofs.YtdkkpfeiaaffhaaGreatDoor.FT
set_option maxRecDepth 100000
open Go.RowKit K Go.Proofs.YtdkkpfeiaaffhaaGreatDoor.BE Go.Proofs.YtdkkpfeiaaffhaaGreatDoor.DN Go.Proofs.YtdkkpfeiaaffhaaGreatDoor.SC

set_option maxHeartbeats 16000000 in
theorem valuesLaw {S S2 : Nat → Prop} (vt vc : Value) (s : Sch) (n a b : B) (w : World) (h : TysIn S w vt s.tys) (hy : ClsIn S2 w vc s.cls) (hG : Gs w) (hn : Sz n) (ha : Sz a) (hb : Sz b) :
    Calls Tryz.prog 3 #[.agg #[vt, vc], .string (sb n), .string (sb a), .string (sb b)] w fun e w' => e = .returned (.bool true) ∧ Fr No w w' := by
  obtain ⟨X, hXe⟩ : ∃ X : Nat → Prop, X = fun k => k < w.heap.size := ⟨_, rfl⟩
  have HX := hid hXe
  have HGX : Hid (GX X) := hid (by rw [hXe]; exact hG.gx)
  have HG := hid hG; have HT := hid h; have HC := hid hy
  have HZ := hid (show Sz n ∧ Sz a ∧ Sz b from ⟨hn, ha, hb⟩)
  clear h hy hG hXe hn ha hb
  go_enter Tryz.func3, Tryz.ntmps3
  go_wp2_with (first
    | ((with_reducible refine K.atO (.box 25 _) ?_); refine wpL_box rfl _ _ rfl _ rfl [vt, vc] rfl ?_; intro w1 HB1 HF1 HS1; refine Hid.out ?_)
    | fail)
  obtain ⟨sb0, hsb⟩ : ∃ b, w.heap.size = b := ⟨_, rfl⟩
  have HSB := hid hsb
  rw [hsb] at HB1 ⊢
  clear hsb HS1
  refine hid ?_
  go_wp2_with fail
  refine (SC.awake_any w1 (HG.out.no HF1.out)).mono ?_
  rintro e w2 ⟨rfl, f2⟩
  have HR2 : Hid (w2.rangeAt sb0 0 [vt, vc]) := hid ((HB1.out.fr f2 id).range 0 _ rfl)
  have HF2 : Hid (Fr No w w2) := hid (HF1.out.trans' f2)
  have HT2 := hid (TysIn.fr (D := No) HT.out HF2.out (fun _ _ _ e => e)); have HC2 := hid (ClsIn.fr (D := No) HC.out HF2.out (fun _ _ _ e => e))
  have HSL : Hid (sb0 < w2.heap.size) := hid ((HB1.out.fr f2 id).lt)
  clear f2 HB1 HF1
  go_wp2_with (first
    | ((with_reducible refine K.atO (.load 25 _) ?_); refine wpL_valZ rfl (.agg #[vt, vc]) (exec_load _ _ rfl sb0 0 rfl [vt, vc] _ rfl rfl infoSc5 w2 HR2.out) ?_)
    | fail)
  cases hok : okS s with
  | false =>
    refine (new_bad vt vc s w2 HT2.out HC2.out hok).mono ?_
    rintro e w3 ⟨rfl, f3⟩
    go_wp2_with fail
    go_ret
    exact ⟨rfl, HF2.out.trans' f3⟩
  | true =>
    refine (new_ok vt vc s w2 HT2.out HC2.out hok).mono ?_
    rintro e w3 ⟨q, rfl, hs, f3⟩
    have HOK := hid hok
    have HS3 : Hid (Sx w3 X q s) := hid (hs.less (fun k hk => by rw [HX.out] at hk; exact Nat.lt_of_lt_of_le hk HF2.out.size))
    have HG3 := hid (HG.out.no (HF2.out.trans' f3))
    have HF3 : Hid (Fr No w w3) := hid (HF2.out.trans' f3)
    have HQ : Hid (w.heap.size ≤ q) := hid (by have := HS3.out.nx; rw [HX.out] at this; omega)
    have HQS : Hid (sb0 ≠ q) := hid (by have := hs.nx; have := HSL.out; omega)
    have HFQ : Hid (∀ u v : World, Fr No w u → Fr (fun i => i = q) u v → Fr No w v) := hid (fun _ _ f g => f.trans g (fun i e => .inr (by rw [e]; exact HQ.out)))
    have HXB3 : Hid (∀ k, X k → k < w3.heap.size) := hid (fun k hk => by rw [HX.out] at hk; exact Nat.lt_of_lt_of_le (show k < w.heap.size from hk) (HF2.out.trans' f3).size)
    have HR3 := hid (f3.range HR2.out id)
    clear hs f3 HT2 HC2 HF2 HR2 hok HSL
    go_wp2_with fail
    refine (norm_any X q s n a w3 HS3.out HXB3.out HGX.out HG3.out HZ.out.1 HZ.out.2.1).mono ?_
    rintro e w4 ⟨rfl, hs, f⟩
    have HF4 := hid (HFQ.out _ _ HF3.out f)
    have HS4 := hid hs.sx; have HG4 := hid (hs.bb HG3.out f HGX.out); have HXB4 := hid (fun k hk => Nat.lt_of_lt_of_le (HXB3.out k hk) f.size)
    have HR4 := hid (f.range HR3.out HQS.out)
    have HT4 := hid (TysIn.fr (D := No) HT.out HF4.out (fun _ _ _ e => e)); have HC4 := hid (ClsIn.fr (D := No) HC.out HF4.out (fun _ _ _ e => e))
    clear hs f HS3 HG3 HXB3 HR3 HF3
    have HRN := hid (rnorm13_any vt vc s n a w4 HT4.out HC4.out HOK.out HZ.out.1 HZ.out.2.1)
    obtain ⟨p1, hp1⟩ : ∃ p1, (normE s n a).1 = p1 := ⟨_, rfl⟩
    obtain ⟨p2, hp2⟩ : ∃ p2, (normE s n a).2 = p2 := ⟨_, rfl⟩
    rw [hp1, hp2] at HRN ⊢
    clear hp1 hp2 HT4 HC4
    go_wp2_with (first
      | ((with_reducible refine K.atO (.load 25 _) ?_); refine wpL_valZ rfl (.agg #[vt, vc]) (exec_load _ _ rfl sb0 0 rfl [vt, vc] _ rfl rfl infoSc5 w4 HR4.out) ?_)
      | fail)
    refine HRN.out.mono ?_
    rintro e w5 ⟨rfl, f⟩
    have HF5 := hid (HF4.out.trans' f)
    have HS5 := hid (HS4.out.no f); have HG5 := hid (HG4.out.no f); have HXB5 := hid (fun k hk => Nat.lt_of_lt_of_le (HXB4.out k hk) f.size)
    have HR5 := hid (f.range HR4.out id)
    clear f HS4 HG4 HXB4 HR4 HF4 HRN
    go_wp2_with fail
    refine (cmp_any X q s n a b w5 HS5.out HXB5.out HGX.out HG5.out HZ.out.1 HZ.out.2.1 HZ.out.2.2).mono ?_
    rintro e w6 ⟨rfl, hs, f⟩
    have HF6 := hid (HFQ.out _ _ HF5.out f)
    have HR6 := hid (f.range HR5.out HQS.out)
    have HT6 := hid (TysIn.fr (D := No) HT.out HF6.out (fun _ _ _ e => e)); have HC6 := hid (ClsIn.fr (D := No) HC.out HF6.out (fun _ _ _ e => e))
    clear hs f HS5 HG5 HXB5 HR5 HF5
    have HRC := hid (rcompare_any vt vc s n a b w6 HT6.out HC6.out HOK.out HZ.out.1 HZ.out.2.1 HZ.out.2.2)
    obtain ⟨c1, hc1⟩ : ∃ c1, (cmpE s n a b).1 = c1 := ⟨_, rfl⟩
    obtain ⟨c2, hc2⟩ : ∃ c2, (cmpE s n a b).2 = c2 := ⟨_, rfl⟩
    rw [hc1, hc2] at HRC ⊢
    clear hc1 hc2 HT6 HC6
    go_wp2_with (first
      | ((with_reducible refine K.atO (.load 25 _) ?_); refine wpL_valZ rfl (.agg #[vt, vc]) (exec_load _ _ rfl sb0 0 rfl [vt, vc] _ rfl rfl infoSc5 w6 HR6.out) ?_)
      | fail)
    refine HRC.out.mono ?_
    rintro e w7 ⟨rfl, f⟩
    have HF7 := hid (HF6.out.trans' f)
    clear f HRC HR6 HF6
    go_wp2_with (first
      | ((with_reducible refine K.atO (.binOp .eql 9 _ _ _) ?_); refine wpL_valZ rfl (.bool true) (exec_eqQ _ _ _ rfl p1 p1 rfl rfl _ (decide_eq_true rfl) rfl rfl _) ?_)
      | fail)
    go_ret
    exact ⟨by simp, HF7.out⟩
end Go.Proofs.YtdkkpfeiaaffhaaGreatDoor.FT
