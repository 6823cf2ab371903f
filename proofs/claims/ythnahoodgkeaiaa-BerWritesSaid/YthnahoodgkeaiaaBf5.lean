/-
  The document's bytes of an element.
-/
import Derived.Test.YthnahoodgkeaiaaBf3
import Derived.Test.YthnahoodgkeaiaaBf4
import Derived.Test.YthnahoodgkeaiaaBeV
set_option linter.unusedVariables false
set_option linter.unusedSimpArgs false
namespace Go.Proofs.Ythnahoodgkeaiaa.BE
set_option maxRecDepth 100000
open Go.RowKit K

def BytesP (m : Nat) (n : Nd) (w : World) (e : Ending) (w' : World) : Prop := Fr No w w' ∧ ((fits m n = true ∧ ∃ v, e = .returned (.tuple #[v, .bool true]) ∧ RowC w.heap.size w' v (enc m n)) ∨ (fits m n = false ∧ e = .returned (.tuple #[.slice none 0 0, .bool false])))
theorem RowC.own {base : Nat} {w : World} {v : Value} {l : B} (h : RowC base w v l) {w0 w' : World} (hb : w0.heap.size ≤ base) (hf0 : Fr No w0 w) (hf : Fr (fun k => v.ownBlock = some k) w w') : Fr No w0 w' := hf0.trans hf fun k hk => .inr (by have := h.low k hk; omega)
set_option maxHeartbeats 16000000 in
theorem bytes_any : ∀ (m M N : Nat) (n : Nd) (cs : List Value) (w : World), deep m n = true → shaped m n = true → small m n → NdAt M (Lo N) w n cs → N ≤ w.heap.size → Calls Try.prog 26 #[.agg cs.toArray] w (BytesP m n w) := by
  intro m
  induction m with
  | zero => intro M N n cs w h; cases h
  | succ m ih =>
    intro M N n cs w hd hsh hsm hn hN
    obtain ⟨a, sc, hcs, htg, hbl, hkl⟩ := hn.head
    obtain ⟨M, rfl⟩ := hn.succ
    obtain ⟨hk2, hb2, hs2⟩ := hsm
    rw [shaped_eq, Bool.and_eq_true, Bool.and_eq_true] at hsh
    obtain ⟨⟨htb, -⟩, hshk⟩ := hsh
    obtain ⟨ic, hic, hzc, hsc, hbc⟩ := Go.info_parts infozB
    have IC := hid hic; have ZC := hid hzc; have SC := hid hsc; have BC := hid hbc
    have HN := hid hn; have HIH := hid ih; have HNN := hid hN; have HD := hid hd; have HSK := hid hshk; have HSM := hid hs2
    obtain ⟨tg, htge⟩ : ∃ tg, n.tag = tg := ⟨_, rfl⟩
    obtain ⟨kl, hkle⟩ : ∃ kl, n.kids.length = kl := ⟨_, rfl⟩
    obtain ⟨bd, hbde⟩ : ∃ bd, n.body = bd := ⟨_, rfl⟩
    have HK := hid hkle; have HBE := hid hbde; have HTE := hid htge
    have HTB : Hid (tagB tg = true) := hid (by rw [← htge]; exact htb)
    rw [htge, hkle, hbde] at hcs
    rw [hkle] at hkl hk2
    rw [hbde] at hb2 hbl
    subst hcs
    have HBL := hid hbl; have HB2 := hid hb2
    clear hn ih hN hd hshk hs2 htg hbl htge hkle hbde htb hic hzc hsc hbc hb2
    have hkli : (kl : Int) ≤ 20000 := by omega
    go_enter Try.func26, Try.ntmps26
    go_wp2_with (first
      | ((with_reducible show wpList _ _ _ (⟨_, .box 24 _, _, _, _, _⟩ :: _) _ _); refine wpL_box rfl _ _ rfl _ rfl [.int .i64 tg, .string (sb bd), .slice a kl sc] rfl ?_; intro w1 HB1 F1 HS1; have c1 : w1.cell? ⟨w.heap.size, 1, none⟩ = some (.string (sb bd)) := HB1.out.cell 1)
      | ((with_reducible show wpList _ _ _ (⟨_, .convert _ 44 _, _, _, _, _⟩ :: _) _ _); refine wpL_bytesC rfl _ rfl bd rfl HBL.out ?_; intro a2 c2 w2 HR2 F2))
    have HR0 : Hid (RowC w1.heap.size w2 (.slice a2 bd.length c2) bd) := HR2
    go_loopw [4, 5] (fun cv iv wr => ∃ (i : Nat) (X : B) (ra : Option Addr) (rc : Nat), cv = .slice ra X.length rc ∧ iv = .int .i64 i ∧ i ≤ kl ∧ X.length ≤ 20000 + 4004 * i ∧ Hid (X = bd ++ ((n.kids.take i).map (enc m)).flatten) ∧ Hid (RowC w1.heap.size wr (.slice ra X.length rc) X) ∧ Hid ((n.kids.take i).all (fits m) = true) ∧ Hid (Fr No w1 wr)) (fun _ iv _ => kl - (intOf iv).toNat)
    case atStart => exact ⟨0, bd, a2, c2, rfl, rfl, Nat.zero_le _, by have := HB2.out; omega, hid (by simp), HR0, hid rfl, hid F2.out⟩
    case round =>
      obtain ⟨i, X, ra, rc, rfl, rfl, hi, hXl, HX, HR, HALL, HF⟩ := hrel
      have HBr := hid (HB1.out.fr HF.out id)
      have c2' : wr.cell? ⟨w.heap.size, 2, none⟩ = some (.slice a kl sc) := HBr.out.cell 2
      have c0' : wr.cell? ⟨w.heap.size, 0, none⟩ = some (.int .i64 tg) := HBr.out.cell 0
      have hXli : (X.length : Int) ≤ 100000000 := by omega
      by_cases hlt : i < kl
      · have hlti : (i : Int) < kl := by omega
        obtain ⟨x, hx⟩ : ∃ x, n.kids[i]? = some x := ⟨_, List.getElem?_eq_getElem (by rw [HK.out]; exact hlt)⟩
        obtain ⟨g, o, cp, c, he, hr, hcl, hxa⟩ := (HN.out.no (F1.out.trans' HF.out)).kid hx
        simp only [List.cons.injEq, Value.slice.injEq, and_true, true_and] at he
        obtain ⟨ha, -⟩ := he.2.2
        subst ha
        have HXK := hid hx; have HRR := hid hr; have HCL := hid hcl; have HXA := hid hxa
        have HDX := hid (deep_kid HD.out hx)
        have hmem := List.mem_of_getElem? hx
        have HSX := hid (List.all_eq_true.1 HSK.out x hmem)
        have HMX := hid (HSM.out x hmem)
        clear hx hr hcl hxa he hmem
        go_wp2_with (first
          | ((with_reducible show wpList _ _ _ (⟨_, .load 24 _, _, _, _, _⟩ :: _) _ _); refine wpL_load rfl _ _ rfl g (o + i * 3) rfl c _ HRR.out rfl rfl (by rw [HCL.out]; exact infoN) ?_))
        refine (HIH.out M N x c wr HDX.out HSX.out HMX.out HXA.out (Nat.le_trans HNN.out (F1.out.trans' HF.out).size)).mono ?_
        rintro e w3 ⟨f3, h3⟩
        have HF3 := hid (HF.out.trans' f3)
        have HR3 := hid (HR.out.no f3)
        rcases h3 with ⟨hfx, v, rfl, hrv⟩ | ⟨hfx, rfl⟩
        · obtain ⟨va, vc, rfl⟩ := hrv.form
          have HRV := hid hrv
          have HA2 := hid (all_take HXK.out HALL.out hfx)
          have hel := fin_len HDX.out hfx
          obtain ⟨ks, hks⟩ : ∃ ks, enc m x = ks := ⟨_, rfl⟩
          rw [hks] at HRV hel ⊢
          have HKS := hid hks
          clear f3 hfx hrv hks
          go_wp2_with (first
            | ((with_reducible show wpList _ _ _ (⟨_, .call { callee := .builtin .append, args := _, argTypes := _ }, _, _, _, _⟩ :: _) _ _); refine wpL_appendC rfl _ _ 44 rfl 5 ic Try.underlying44 IC.out ZC.out SC.out BC.out w1.heap.size (.slice ra X.length rc) X rfl HR3.out (.slice va ks.length vc) _ ks rfl HRV.out (by omega) HF3.out.size ?_; intro a4 c4 w4 HR4 F4 HO4))
          go_roundw
          case rel =>
            refine ⟨i + 1, X ++ ks, a4, c4, by rw [List.length_append], by go_num, by omega, by rw [List.length_append]; omega, hid ?_, hid (by have h := HR4.out; rwa [← List.length_append] at h), HA2, hid (HR3.out.own (Nat.le_refl _) HF3.out F4.out)⟩
            rw [List.take_add_one, HXK.out, HX.out, ← HKS.out]
            simp
          case measure => simp [intOf]; omega
        · have hff : fits (m + 1) n = false := by rw [fits_succ, all_not HXK.out hfx]; rfl
          have HFF := hid hff
          clear f3 hfx hff
          go_wp2_with fail
          go_ret2
          exact ⟨F1.out.trans' HF3.out, .inr ⟨HFF.out, rfl⟩⟩
      · obtain rfl : i = kl := by omega
        have hXc : X = cont m n := by rw [HX.out, ← HK.out, List.take_length, ← HBE.out]; rfl
        have HXC := hid hXc
        have hal : n.kids.all (fits m) = true := by have h := HALL.out; rwa [← HK.out, List.take_length] at h
        have HAL := hid hal
        have hcl : clen (m + 1) n = X.length := by rw [hXc]; rfl
        have HCLN := hid hcl
        clear hXc hal hcl
        by_cases h4 : 4000 < X.length
        · have h4i : (4000 : Int) < (X.length : Int) := by omega
          go_wp2_with fail
          go_ret2
          exact ⟨F1.out.trans' HF.out, .inr ⟨by rw [fits_succ, HCLN.out, decide_eq_false (by omega)]; simp, rfl⟩⟩
        · have h4i : ¬ (4000 : Int) < (X.length : Int) := by omega
          have HFT : Hid (fits (m + 1) n = true) := hid (by rw [fits_succ, HCLN.out, HAL.out, decide_eq_true (by omega)]; rfl)
          have HC : Hid (RowC w1.heap.size wr (.slice ra X.length rc) X) := HR
          have HCB : Hid (∀ g, (Value.slice ra X.length rc).ownBlock = some g → g < wr.heap.size) := hid (fun g hg => (HR.out.low g hg).2)
          have HFW : Hid (Fr No w wr) := hid (F1.out.trans' HF.out)
          have HBW : Hid (w.heap.size ≤ w1.heap.size) := hid F1.out.size
          have HENC : Hid (enc (m + 1) n = UInt8.ofNat tg.toNat :: (lenB X.length ++ X)) := hid (by rw [enc_succ, ← HXC.out, HTE.out])
          obtain ⟨xl, hxl⟩ : ∃ xl, X.length = xl := ⟨_, rfl⟩
          rw [hxl] at HC HCB HENC h4 h4i hXl hXli HR ⊢
          have HXL := hid hxl
          clear hxl HX HXC HAL HCLN HALL HR HF
          have HWR := hid (Nat.le_refl wr.heap.size)
          by_cases h256 : 256 ≤ xl
          · have h256i : (256 : Int) ≤ xl := by omega
            go_wp2_with (first
              | ((with_reducible show wpList _ _ _ (⟨_, .buildSlice 44 _ _, _, _, _, _⟩ :: _) _ _); (fail_if_success (have := HL0)); refine wpL_buildOne rfl _ 5 _ rfl ic _ rfl IC.out ZC.out (by rw [SC.out]; decide) (by rw [SC.out]; decide) (.int .u8 ((UInt8.ofNat tg.toNat).toNat : Int)) [.int .u8 ((UInt8.ofNat tg.toNat).toNat : Int)] (by exact u8_tag HTB.out) rfl (by rw [SC.out]; rfl) ?_; intro w4 HB4 F4 HS4;
                  have HL0 : Hid (RowC wr.heap.size w4 (.slice (some ⟨wr.heap.size, 0, none⟩) 1 1) [UInt8.ofNat tg.toNat]) := hid (RowC.blk (l := [UInt8.ofNat tg.toNat]) HB4.out (by simp [maxLen]));
                  have C0 := hid (HC.out.no F4.out); have FW0 := hid (HFW.out.trans' F4.out); have WR0 : Hid (wr.heap.size ≤ w4.heap.size) := hid (F4.out.size))
              | ((with_reducible show wpList _ _ _ (⟨_, .buildSlice 44 _ _, _, _, _, _⟩ :: _) _ _); (have := HL0); (fail_if_success (have := HQ1)); refine wpL_buildOne rfl _ 5 _ rfl ic _ rfl IC.out ZC.out (by rw [SC.out]; decide) (by rw [SC.out]; decide) (.int .u8 (((130 : UInt8)).toNat : Int)) [.int .u8 (((130 : UInt8)).toNat : Int)] (rfl) rfl (by rw [SC.out]; rfl) ?_; intro x1 HBx1 Fx1 HSx1;
                  have HQ1 : Hid (RowC _ x1 _ [(130 : UInt8)]) := hid (RowC.blk (l := [(130 : UInt8)]) HBx1.out (by simp [maxLen]));
                  have HM1 := hid (HL0.out.no Fx1.out); have D1 := hid (C0.out.no Fx1.out); have FM1 := hid (FW0.out.trans' Fx1.out); have WM1 : Hid (wr.heap.size ≤ x1.heap.size) := hid (Nat.le_trans WR0.out Fx1.out.size))
              | ((with_reducible show wpList _ _ _ (⟨_, .call { callee := .builtin .append, args := _, argTypes := _ }, _, _, _, _⟩ :: _) _ _); (have := HQ1); (fail_if_success (have := HL1)); refine wpL_appendC rfl _ _ 44 rfl 5 ic Try.underlying44 IC.out ZC.out SC.out BC.out wr.heap.size _ [UInt8.ofNat tg.toNat] rfl HM1.out _ _ [(130 : UInt8)] rfl HQ1.out (by simp) WM1.out ?_; intro a1_ c1_ y1 HL1 Fy1 Oy1;
                  have C1 := hid (D1.out.fr Fy1.out (fun g hg hD => by have := (HM1.out.low g hD).1; have := HCB.out g hg; omega)); have FW1 := hid (FM1.out.trans Fy1.out (fun k hk => .inr (by have := (HM1.out.low k hk).1; have := HFW.out.size; omega))); have WR1 : Hid (wr.heap.size ≤ y1.heap.size) := hid (Nat.le_trans WM1.out Fy1.out.size))
              | ((with_reducible show wpList _ _ _ (⟨_, .buildSlice 44 _ _, _, _, _, _⟩ :: _) _ _); (have := HL1); (fail_if_success (have := HQ2)); refine wpL_buildOne rfl _ 5 _ rfl ic _ rfl IC.out ZC.out (by rw [SC.out]; decide) (by rw [SC.out]; decide) (.int .u8 ((UInt8.ofNat (xl / 256)).toNat : Int)) [.int .u8 ((UInt8.ofNat (xl / 256)).toNat : Int)] (by show Value.int .u8 _ = _; first | (rw [ofNat_lt (by omega)]; done) | (rw [ofNat_lt (by omega)]; rfl) | (rw [ofNat_lt (by omega)]; congr 1; omega)) rfl (by rw [SC.out]; rfl) ?_; intro x2 HBx2 Fx2 HSx2;
                  have HQ2 : Hid (RowC _ x2 _ [UInt8.ofNat (xl / 256)]) := hid (RowC.blk (l := [UInt8.ofNat (xl / 256)]) HBx2.out (by simp [maxLen]));
                  have HM2 := hid (HL1.out.no Fx2.out); have D2 := hid (C1.out.no Fx2.out); have FM2 := hid (FW1.out.trans' Fx2.out); have WM2 : Hid (wr.heap.size ≤ x2.heap.size) := hid (Nat.le_trans WR1.out Fx2.out.size))
              | ((with_reducible show wpList _ _ _ (⟨_, .call { callee := .builtin .append, args := _, argTypes := _ }, _, _, _, _⟩ :: _) _ _); (have := HQ2); (fail_if_success (have := HL2)); refine wpL_appendC rfl _ _ 44 rfl 5 ic Try.underlying44 IC.out ZC.out SC.out BC.out wr.heap.size _ [UInt8.ofNat tg.toNat, (130 : UInt8)] rfl HM2.out _ _ [UInt8.ofNat (xl / 256)] rfl HQ2.out (by simp) WM2.out ?_; intro a2_ c2_ y2 HL2 Fy2 Oy2;
                  have C2 := hid (D2.out.fr Fy2.out (fun g hg hD => by have := (HM2.out.low g hD).1; have := HCB.out g hg; omega)); have FW2 := hid (FM2.out.trans Fy2.out (fun k hk => .inr (by have := (HM2.out.low k hk).1; have := HFW.out.size; omega))); have WR2 : Hid (wr.heap.size ≤ y2.heap.size) := hid (Nat.le_trans WM2.out Fy2.out.size))
              | ((with_reducible show wpList _ _ _ (⟨_, .buildSlice 44 _ _, _, _, _, _⟩ :: _) _ _); (have := HL2); (fail_if_success (have := HQ3)); refine wpL_buildOne rfl _ 5 _ rfl ic _ rfl IC.out ZC.out (by rw [SC.out]; decide) (by rw [SC.out]; decide) (.int .u8 ((UInt8.ofNat (xl % 256)).toNat : Int)) [.int .u8 ((UInt8.ofNat (xl % 256)).toNat : Int)] (by show Value.int .u8 _ = _; first | (rw [ofNat_lt (by omega)]; done) | (rw [ofNat_lt (by omega)]; rfl) | (rw [ofNat_lt (by omega)]; congr 1; omega)) rfl (by rw [SC.out]; rfl) ?_; intro x3 HBx3 Fx3 HSx3;
                  have HQ3 : Hid (RowC _ x3 _ [UInt8.ofNat (xl % 256)]) := hid (RowC.blk (l := [UInt8.ofNat (xl % 256)]) HBx3.out (by simp [maxLen]));
                  have HM3 := hid (HL2.out.no Fx3.out); have D3 := hid (C2.out.no Fx3.out); have FM3 := hid (FW2.out.trans' Fx3.out); have WM3 : Hid (wr.heap.size ≤ x3.heap.size) := hid (Nat.le_trans WR2.out Fx3.out.size))
              | ((with_reducible show wpList _ _ _ (⟨_, .call { callee := .builtin .append, args := _, argTypes := _ }, _, _, _, _⟩ :: _) _ _); (have := HQ3); (fail_if_success (have := HL3)); refine wpL_appendC rfl _ _ 44 rfl 5 ic Try.underlying44 IC.out ZC.out SC.out BC.out wr.heap.size _ [UInt8.ofNat tg.toNat, (130 : UInt8), UInt8.ofNat (xl / 256)] rfl HM3.out _ _ [UInt8.ofNat (xl % 256)] rfl HQ3.out (by simp) WM3.out ?_; intro a3_ c3_ y3 HL3 Fy3 Oy3;
                  have C3 := hid (D3.out.fr Fy3.out (fun g hg hD => by have := (HM3.out.low g hD).1; have := HCB.out g hg; omega)); have FW3 := hid (FM3.out.trans Fy3.out (fun k hk => .inr (by have := (HM3.out.low k hk).1; have := HFW.out.size; omega))); have WR3 : Hid (wr.heap.size ≤ y3.heap.size) := hid (Nat.le_trans WM3.out Fy3.out.size))
              | ((with_reducible show wpList _ _ _ (⟨_, .call { callee := .builtin .append, args := _, argTypes := _ }, _, _, _, _⟩ :: _) _ _); (have := HL3); refine wpL_appendC rfl _ _ 44 rfl 5 ic Try.underlying44 IC.out ZC.out SC.out BC.out wr.heap.size _ [UInt8.ofNat tg.toNat, (130 : UInt8), UInt8.ofNat (xl / 256), UInt8.ofNat (xl % 256)] rfl HL3.out (.slice ra xl rc) w1.heap.size X rfl C3.out (by rw [HXL.out]; simp; omega) WR3.out ?_; intro az cz z HZ Fz Oz;
                  have FZ := hid (FW3.out.trans Fz.out (fun k hk => .inr (by have := (HL3.out.low k hk).1; have := HFW.out.size; omega)))))
            go_ret2
            refine ⟨FZ.out, .inl ⟨HFT.out, _, rfl, ?_⟩⟩
            have hz := HZ.out.low' HFW.out.size
            rw [HENC.out, show lenB xl = [130, UInt8.ofNat (xl / 256), UInt8.ofNat (xl % 256)] by unfold lenB; rw [if_neg (by omega), if_neg (by omega)]]
            exact hz
          · have h256i : ¬ (256 : Int) ≤ xl := by omega
            by_cases h128 : 128 ≤ xl
            · have h128i : (128 : Int) ≤ xl := by omega
              go_wp2_with (first
                | ((with_reducible show wpList _ _ _ (⟨_, .buildSlice 44 _ _, _, _, _, _⟩ :: _) _ _); (fail_if_success (have := HL0)); refine wpL_buildOne rfl _ 5 _ rfl ic _ rfl IC.out ZC.out (by rw [SC.out]; decide) (by rw [SC.out]; decide) (.int .u8 ((UInt8.ofNat tg.toNat).toNat : Int)) [.int .u8 ((UInt8.ofNat tg.toNat).toNat : Int)] (by exact u8_tag HTB.out) rfl (by rw [SC.out]; rfl) ?_; intro w4 HB4 F4 HS4;
                    have HL0 : Hid (RowC wr.heap.size w4 (.slice (some ⟨wr.heap.size, 0, none⟩) 1 1) [UInt8.ofNat tg.toNat]) := hid (RowC.blk (l := [UInt8.ofNat tg.toNat]) HB4.out (by simp [maxLen]));
                    have C0 := hid (HC.out.no F4.out); have FW0 := hid (HFW.out.trans' F4.out); have WR0 : Hid (wr.heap.size ≤ w4.heap.size) := hid (F4.out.size))
                | ((with_reducible show wpList _ _ _ (⟨_, .buildSlice 44 _ _, _, _, _, _⟩ :: _) _ _); (have := HL0); (fail_if_success (have := HQ1)); refine wpL_buildOne rfl _ 5 _ rfl ic _ rfl IC.out ZC.out (by rw [SC.out]; decide) (by rw [SC.out]; decide) (.int .u8 (((129 : UInt8)).toNat : Int)) [.int .u8 (((129 : UInt8)).toNat : Int)] (rfl) rfl (by rw [SC.out]; rfl) ?_; intro x1 HBx1 Fx1 HSx1;
                    have HQ1 : Hid (RowC _ x1 _ [(129 : UInt8)]) := hid (RowC.blk (l := [(129 : UInt8)]) HBx1.out (by simp [maxLen]));
                    have HM1 := hid (HL0.out.no Fx1.out); have D1 := hid (C0.out.no Fx1.out); have FM1 := hid (FW0.out.trans' Fx1.out); have WM1 : Hid (wr.heap.size ≤ x1.heap.size) := hid (Nat.le_trans WR0.out Fx1.out.size))
                | ((with_reducible show wpList _ _ _ (⟨_, .call { callee := .builtin .append, args := _, argTypes := _ }, _, _, _, _⟩ :: _) _ _); (have := HQ1); (fail_if_success (have := HL1)); refine wpL_appendC rfl _ _ 44 rfl 5 ic Try.underlying44 IC.out ZC.out SC.out BC.out wr.heap.size _ [UInt8.ofNat tg.toNat] rfl HM1.out _ _ [(129 : UInt8)] rfl HQ1.out (by simp) WM1.out ?_; intro a1_ c1_ y1 HL1 Fy1 Oy1;
                    have C1 := hid (D1.out.fr Fy1.out (fun g hg hD => by have := (HM1.out.low g hD).1; have := HCB.out g hg; omega)); have FW1 := hid (FM1.out.trans Fy1.out (fun k hk => .inr (by have := (HM1.out.low k hk).1; have := HFW.out.size; omega))); have WR1 : Hid (wr.heap.size ≤ y1.heap.size) := hid (Nat.le_trans WM1.out Fy1.out.size))
                | ((with_reducible show wpList _ _ _ (⟨_, .buildSlice 44 _ _, _, _, _, _⟩ :: _) _ _); (have := HL1); (fail_if_success (have := HQ2)); refine wpL_buildOne rfl _ 5 _ rfl ic _ rfl IC.out ZC.out (by rw [SC.out]; decide) (by rw [SC.out]; decide) (.int .u8 ((UInt8.ofNat xl).toNat : Int)) [.int .u8 ((UInt8.ofNat xl).toNat : Int)] (by show Value.int .u8 _ = _; first | (rw [ofNat_lt (by omega)]; done) | (rw [ofNat_lt (by omega)]; rfl) | (rw [ofNat_lt (by omega)]; congr 1; omega)) rfl (by rw [SC.out]; rfl) ?_; intro x2 HBx2 Fx2 HSx2;
                    have HQ2 : Hid (RowC _ x2 _ [UInt8.ofNat xl]) := hid (RowC.blk (l := [UInt8.ofNat xl]) HBx2.out (by simp [maxLen]));
                    have HM2 := hid (HL1.out.no Fx2.out); have D2 := hid (C1.out.no Fx2.out); have FM2 := hid (FW1.out.trans' Fx2.out); have WM2 : Hid (wr.heap.size ≤ x2.heap.size) := hid (Nat.le_trans WR1.out Fx2.out.size))
                | ((with_reducible show wpList _ _ _ (⟨_, .call { callee := .builtin .append, args := _, argTypes := _ }, _, _, _, _⟩ :: _) _ _); (have := HQ2); (fail_if_success (have := HL2)); refine wpL_appendC rfl _ _ 44 rfl 5 ic Try.underlying44 IC.out ZC.out SC.out BC.out wr.heap.size _ [UInt8.ofNat tg.toNat, (129 : UInt8)] rfl HM2.out _ _ [UInt8.ofNat xl] rfl HQ2.out (by simp) WM2.out ?_; intro a2_ c2_ y2 HL2 Fy2 Oy2;
                    have C2 := hid (D2.out.fr Fy2.out (fun g hg hD => by have := (HM2.out.low g hD).1; have := HCB.out g hg; omega)); have FW2 := hid (FM2.out.trans Fy2.out (fun k hk => .inr (by have := (HM2.out.low k hk).1; have := HFW.out.size; omega))); have WR2 : Hid (wr.heap.size ≤ y2.heap.size) := hid (Nat.le_trans WM2.out Fy2.out.size))
                | ((with_reducible show wpList _ _ _ (⟨_, .call { callee := .builtin .append, args := _, argTypes := _ }, _, _, _, _⟩ :: _) _ _); (have := HL2); refine wpL_appendC rfl _ _ 44 rfl 5 ic Try.underlying44 IC.out ZC.out SC.out BC.out wr.heap.size _ [UInt8.ofNat tg.toNat, (129 : UInt8), UInt8.ofNat xl] rfl HL2.out (.slice ra xl rc) w1.heap.size X rfl C2.out (by rw [HXL.out]; simp; omega) WR2.out ?_; intro az cz z HZ Fz Oz;
                    have FZ := hid (FW2.out.trans Fz.out (fun k hk => .inr (by have := (HL2.out.low k hk).1; have := HFW.out.size; omega)))))
              go_ret2
              refine ⟨FZ.out, .inl ⟨HFT.out, _, rfl, ?_⟩⟩
              have hz := HZ.out.low' HFW.out.size
              rw [HENC.out, show lenB xl = [129, UInt8.ofNat xl] by unfold lenB; rw [if_neg (by omega), if_pos (by omega)]]
              exact hz
            · have h128i : ¬ (128 : Int) ≤ xl := by omega
              go_wp2_with (first
                | ((with_reducible show wpList _ _ _ (⟨_, .buildSlice 44 _ _, _, _, _, _⟩ :: _) _ _); (fail_if_success (have := HL0)); refine wpL_buildOne rfl _ 5 _ rfl ic _ rfl IC.out ZC.out (by rw [SC.out]; decide) (by rw [SC.out]; decide) (.int .u8 ((UInt8.ofNat tg.toNat).toNat : Int)) [.int .u8 ((UInt8.ofNat tg.toNat).toNat : Int)] (by exact u8_tag HTB.out) rfl (by rw [SC.out]; rfl) ?_; intro w4 HB4 F4 HS4;
                    have HL0 : Hid (RowC wr.heap.size w4 (.slice (some ⟨wr.heap.size, 0, none⟩) 1 1) [UInt8.ofNat tg.toNat]) := hid (RowC.blk (l := [UInt8.ofNat tg.toNat]) HB4.out (by simp [maxLen]));
                    have C0 := hid (HC.out.no F4.out); have FW0 := hid (HFW.out.trans' F4.out); have WR0 : Hid (wr.heap.size ≤ w4.heap.size) := hid (F4.out.size))
                | ((with_reducible show wpList _ _ _ (⟨_, .buildSlice 44 _ _, _, _, _, _⟩ :: _) _ _); (have := HL0); (fail_if_success (have := HQ1)); refine wpL_buildOne rfl _ 5 _ rfl ic _ rfl IC.out ZC.out (by rw [SC.out]; decide) (by rw [SC.out]; decide) (.int .u8 ((UInt8.ofNat xl).toNat : Int)) [.int .u8 ((UInt8.ofNat xl).toNat : Int)] (by show Value.int .u8 _ = _; first | (rw [ofNat_lt (by omega)]; done) | (rw [ofNat_lt (by omega)]; rfl) | (rw [ofNat_lt (by omega)]; congr 1; omega)) rfl (by rw [SC.out]; rfl) ?_; intro x1 HBx1 Fx1 HSx1;
                    have HQ1 : Hid (RowC _ x1 _ [UInt8.ofNat xl]) := hid (RowC.blk (l := [UInt8.ofNat xl]) HBx1.out (by simp [maxLen]));
                    have HM1 := hid (HL0.out.no Fx1.out); have D1 := hid (C0.out.no Fx1.out); have FM1 := hid (FW0.out.trans' Fx1.out); have WM1 : Hid (wr.heap.size ≤ x1.heap.size) := hid (Nat.le_trans WR0.out Fx1.out.size))
                | ((with_reducible show wpList _ _ _ (⟨_, .call { callee := .builtin .append, args := _, argTypes := _ }, _, _, _, _⟩ :: _) _ _); (have := HQ1); (fail_if_success (have := HL1)); refine wpL_appendC rfl _ _ 44 rfl 5 ic Try.underlying44 IC.out ZC.out SC.out BC.out wr.heap.size _ [UInt8.ofNat tg.toNat] rfl HM1.out _ _ [UInt8.ofNat xl] rfl HQ1.out (by simp) WM1.out ?_; intro a1_ c1_ y1 HL1 Fy1 Oy1;
                    have C1 := hid (D1.out.fr Fy1.out (fun g hg hD => by have := (HM1.out.low g hD).1; have := HCB.out g hg; omega)); have FW1 := hid (FM1.out.trans Fy1.out (fun k hk => .inr (by have := (HM1.out.low k hk).1; have := HFW.out.size; omega))); have WR1 : Hid (wr.heap.size ≤ y1.heap.size) := hid (Nat.le_trans WM1.out Fy1.out.size))
                | ((with_reducible show wpList _ _ _ (⟨_, .call { callee := .builtin .append, args := _, argTypes := _ }, _, _, _, _⟩ :: _) _ _); (have := HL1); refine wpL_appendC rfl _ _ 44 rfl 5 ic Try.underlying44 IC.out ZC.out SC.out BC.out wr.heap.size _ [UInt8.ofNat tg.toNat, UInt8.ofNat xl] rfl HL1.out (.slice ra xl rc) w1.heap.size X rfl C1.out (by rw [HXL.out]; simp; omega) WR1.out ?_; intro az cz z HZ Fz Oz;
                    have FZ := hid (FW1.out.trans Fz.out (fun k hk => .inr (by have := (HL1.out.low k hk).1; have := HFW.out.size; omega)))))
              go_ret2
              refine ⟨FZ.out, .inl ⟨HFT.out, _, rfl, ?_⟩⟩
              have hz := HZ.out.low' HFW.out.size
              rw [HENC.out, show lenB xl = [UInt8.ofNat xl] by unfold lenB; rw [if_pos (by omega)]]
              exact hz
end Go.Proofs.Ythnahoodgkeaiaa.BE
