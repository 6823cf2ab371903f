/-
  Part 21 of the proof: SdV.
-/
import Derived.Test.YtooodoacpdhbfaaGreatDoorSm20
import Derived.Test.YtooodoacpdhbfaaGreatDoorSm06
set_option linter.unusedSimpArgs false
set_option linter.unusedVariables false
namespace Go.Proofs.YtooodoacpdhbfaaGreatDoor.SC
set_option maxRecDepth 100000
open Go.RowKit K Go.Proofs.YtooodoacpdhbfaaGreatDoor.BE Go.Proofs.YtooodoacpdhbfaaGreatDoor.DN

theorem bad_ty {s : Sch} {R : Bool} (h : okS s = R) {i : Nat} {t : Ty} (ht : s.tys[i]? = some t) (hb : rT s.tys i t = false) : R = false := by
  cases R with
  | false => rfl
  | true => rw [((okS_iff s).1 h).2.2.1 i t ht] at hb; cases hb
theorem bad_cl {s : Sch} {R : Bool} (h : okS s = R) {i : Nat} {c : Cl} (ht : s.cls[i]? = some c) (hb : rC s.tys s.cls i c = false) : R = false := by
  cases R with
  | false => rfl
  | true => rw [((okS_iff s).1 h).2.2.2 i c ht] at hb; cases hb
set_option maxHeartbeats 32000000 in
theorem right_any {S S2 : Nat → Prop} (vt vc : Value) (s : Sch) (w : World) (h : TysIn S w vt s.tys) (hy : ClsIn S2 w vc s.cls) : Calls Tryz.prog 18 #[.agg #[vt, vc]] w fun e w' => e = .returned (.bool (okS s)) ∧ Fr No w w' := by
  obtain ⟨at_, cpt, rfl, -, hl⟩ := h.form
  obtain ⟨ac, cpc, rfl, -, hl2⟩ := hy.form
  obtain ⟨n, hn⟩ : ∃ n, s.tys.length = n := ⟨_, rfl⟩
  obtain ⟨m, hm⟩ : ∃ m, s.cls.length = m := ⟨_, rfl⟩
  have HX := hid h; have HY := hid hy; have HNN := hid hn; have HMM := hid hm
  obtain ⟨R, hR⟩ : ∃ R, okS s = R := ⟨_, rfl⟩
  have HR := hid hR
  rw [hR]
  rw [hn] at HX hl ⊢
  rw [hm] at HY hl2 ⊢
  have hni : (n : Int) ≤ 140737488351232 := by omega
  have hmi : (m : Int) ≤ 140737488351232 := by omega
  clear h hy hR hn hm hl hl2
  go_enter Tryz.func18, Tryz.ntmps18
  go_wp2_with (first
    | ((with_reducible refine K.atO (.box 33 _) ?_); refine wpL_box rfl _ _ rfl _ rfl [.slice at_ n cpt, .slice ac m cpc] rfl ?_; intro w1 HB1 HF1 HS1; refine Hid.out ?_)
    | fail)
  obtain ⟨b, hb⟩ : ∃ b, w.heap.size = b := ⟨_, rfl⟩
  have HBW := hid hb
  rw [hb] at HB1 ⊢
  clear hb HS1
  have s0 : w1.cell? ⟨b, 0, none⟩ = some (.slice at_ n cpt) := HB1.out.cell 0
  have s1 : w1.cell? ⟨b, 1, none⟩ = some (.slice ac m cpc) := HB1.out.cell 1
  refine hid ?_
  have HBD : Hid (¬ (1 ≤ n ∧ n ≤ 40 ∧ m ≤ 20) → R = false) := hid (fun h => by
    cases hr : R with
    | false => rfl
    | true =>
      have := ((okS_iff s).1 (HR.out.trans hr)).1
      rw [HNN.out, HMM.out] at this
      exact absurd this h)
  by_cases h0 : n < 1
  · obtain rfl : R = false := HBD.out (by omega)
    have h0i : (n : Int) < 1 := by omega
    clear h0
    go_wp2_with fail
    go_ret
    exact ⟨rfl, HF1.out⟩
  have h0i : ¬ (n : Int) < 1 := by omega
  by_cases h1 : 40 < n
  · obtain rfl : R = false := HBD.out (by omega)
    have h1i : (40 : Int) < n := by omega
    clear h0 h1
    go_wp2_with fail
    go_ret
    exact ⟨rfl, HF1.out⟩
  have h1i : ¬ (40 : Int) < n := by omega
  by_cases h2 : 20 < m
  · obtain rfl : R = false := HBD.out (by omega)
    have h2i : (20 : Int) < m := by omega
    clear h0 h1 h2
    go_wp2_with fail
    go_ret
    exact ⟨rfl, HF1.out⟩
  have h2i : ¬ (20 : Int) < m := by omega
  have HBDS : Hid (1 ≤ n ∧ n ≤ 40 ∧ m ≤ 20) := hid (by omega)
  obtain ⟨t, ht⟩ : ∃ t, s.tys[0]? = some t := ⟨_, List.getElem?_eq_getElem (by rw [HNN.out]; omega)⟩
  have HT0 := hid ht
  have HBF : Hid (rFirst t = false → R = false) := hid (fun h => by
    cases hr : R with
    | false => rfl
    | true => rw [((okS_iff s).1 (HR.out.trans hr)).2.1 t ht] at h; cases h)
  obtain ⟨g, o, cq, cs, e1, -, -, hr, -, hp⟩ := (TysIn.fr (D := No) HX.out HF1.out (fun _ _ _ e => e)).get ht
  obtain ⟨rfl, hz⟩ := hp
  rw [HNN.out] at e1
  simp only [Value.slice.injEq, true_and] at e1
  obtain ⟨rfl, rfl⟩ := e1
  rw [Nat.zero_mul, Nat.add_zero] at hr
  have HRR := hid hr; have HZ := hid hz
  have d0 : w1.cell? ⟨g, o, none⟩ = some (.string (sb t.nm)) := by have := hr 0 _ rfl; simpa using this
  have hn0i : (0 : Int) < n := by omega
  clear h0 h1 h2 ht hr hz
  go_wp2_with fail
  refine (smallZ_any t.nm HZ.out w1).mono ?_
  rintro e w2 ⟨rfl, f2⟩
  have HB2 := hid (HB1.out.fr f2 id)
  have HF2 := hid (HF1.out.trans' f2)
  have HRR2 : Hid (w2.rangeAt g o (tyV t)) := hid (f2.range HRR.out id)
  have s0' : w2.cell? ⟨b, 0, none⟩ = some (.slice (some ⟨g, o, none⟩) n cpt) := HB2.out.cell 0
  clear f2 s0 s1 d0 h0i h1i h2i HRR HB1 HF1
  obtain ⟨P0, hP0⟩ : ∃ p, decide (low t.nm = oc) = p := ⟨_, rfl⟩
  have HP0 := hid hP0
  obtain ⟨nm, syn, one, shut, sys, share⟩ := t
  have HFE : Hid (rFirst ⟨nm, syn, one, shut, sys, share⟩ = (P0 && (decide (syn = 1) && !one && !shut && !sys && !share))) := hid (by
    unfold rFirst
    rw [← hP0]
    have : (syn == 1) = decide (syn = 1) := by rw [Bool.eq_iff_iff]; simp
    rw [this])
  clear hP0
  go_wp2_with (first
    | ((with_reducible refine K.atO (.load 39 _) ?_); refine wpL_load rfl _ _ rfl g o rfl (tyV ⟨nm, syn, one, shut, sys, share⟩) _ HRR2.out rfl rfl infoTy ?_)
    | ((with_reducible refine K.atO (.alloc 39) ?_); refine wpL_alloc rfl _ rfl _ zeroTy [.string ⟨#[]⟩, .int .i64 0, .bool false, .bool false, .bool false, .bool false] rfl ?_; intro y2 HY2 GY2 TY2)
    | ((with_reducible refine K.atO (.store 39 _ _) ?_); refine wpL_store rfl _ _ _ rfl w2.heap.size 0 (tyV ⟨nm, syn, one, shut, sys, share⟩) rfl rfl 39 _ HY2.out (by simp [tyV]) infoTy (oneTy _) ?_; intro y3 HY3 GY3 TY3; refine Hid.out ?_)
    | fail)
  have HF23 : Hid (Fr No w2 y3) := hid (GY2.out.trans GY3.out (fun k e => .inr (by have e : k = w2.heap.size := e; omega)))
  have HF3 : Hid (Fr No w y3) := hid (HF2.out.trans' HF23.out)
  have HB3 := hid (HB2.out.fr HF23.out id)
  have HTB3 : Hid (Blk y3 w2.heap.size 39 (tyV ⟨nm, syn, one, shut, sys, share⟩)) := hid HY3.out
  obtain ⟨tb, htb⟩ : ∃ b, w2.heap.size = b := ⟨_, rfl⟩
  rw [htb] at HTB3 ⊢
  clear htb HY2 GY2 TY2 HY3 GY3 TY3 s0' HRR2 HB2 HF2 HF23
  have c1 : y3.cell? ⟨tb, 1, none⟩ = some (.int .i64 syn) := HTB3.out.cell 1
  have c2 : y3.cell? ⟨tb, 2, none⟩ = some (.bool one) := HTB3.out.cell 2
  have c3 : y3.cell? ⟨tb, 3, none⟩ = some (.bool shut) := HTB3.out.cell 3
  have c4 : y3.cell? ⟨tb, 4, none⟩ = some (.bool sys) := HTB3.out.cell 4
  have c5 : y3.cell? ⟨tb, 5, none⟩ = some (.bool share) := HTB3.out.cell 5
  refine hid ?_
  have HNEQ : Hid ((!decide (low nm = oc)) = !P0) := hid (by rw [← HP0.out])
  cases hall : (P0 && (decide (syn = 1) && !one && !shut && !sys && !share)) with
  | false =>
    obtain rfl : R = false := HBF.out (by rw [HFE.out]; exact hall)
    by_cases hs1 : syn = 1
    · subst hs1
      cases P0 <;> cases one <;> cases shut <;> cases sys <;> cases share <;>
      first
      | (exfalso; revert hall; decide)
      | (clear hall
         go_wp2_with (first
          | ((with_reducible refine K.atO (.binOp .neq 9 _ _ _) ?_); refine wpL_valZ rfl (.bool true) (by rw [show true = !decide (low nm = oc) from HNEQ.out.symm]; exact exec_neS _ _ _ rfl (low nm) oc rfl rfl _) ?_)
          | ((with_reducible refine K.atO (.binOp .neq 9 _ _ _) ?_); refine wpL_valZ rfl (.bool false) (by rw [show false = !decide (low nm = oc) from HNEQ.out.symm]; exact exec_neS _ _ _ rfl (low nm) oc rfl rfl _) ?_)
          | fail)
         go_ret
         exact ⟨rfl, HF3.out⟩)
    · clear hall
      cases P0 <;>
      (go_wp2_with (first
          | ((with_reducible refine K.atO (.binOp .neq 9 _ _ _) ?_); refine wpL_valZ rfl (.bool true) (by rw [show true = !decide (low nm = oc) from HNEQ.out.symm]; exact exec_neS _ _ _ rfl (low nm) oc rfl rfl _) ?_)
          | ((with_reducible refine K.atO (.binOp .neq 9 _ _ _) ?_); refine wpL_valZ rfl (.bool false) (by rw [show false = !decide (low nm = oc) from HNEQ.out.symm]; exact exec_neS _ _ _ rfl (low nm) oc rfl rfl _) ?_)
          | fail)
       go_ret
       exact ⟨rfl, HF3.out⟩)
  | true =>
    simp only [Bool.and_eq_true, Bool.not_eq_true', decide_eq_true_eq] at hall
    obtain ⟨rfl, ⟨⟨⟨rfl, rfl⟩, rfl⟩, rfl⟩, rfl⟩ := hall
    have HTY := hid (TysIn.fr (D := No) HX.out HF3.out (fun _ _ _ e => e))
    go_wp2_with (first
      | ((with_reducible refine K.atO (.binOp .neq 9 _ _ _) ?_); refine wpL_valZ rfl (.bool false) (by rw [show false = !decide (low nm = oc) from HNEQ.out.symm]; exact exec_neS _ _ _ rfl (low nm) oc rfl rfl _) ?_)
      | fail)
    clear c1 c2 c3 c4 c5 HTB3
    go_loopw [5] (fun iv wr => ∃ (i : Nat), iv = .int .i64 i ∧ i ≤ n ∧ Hid ((∀ j t, j < i → s.tys[j]? = some t → rT s.tys j t = true) ∧ Fr No w wr ∧ Blk wr b 33 [.slice (some ⟨g, o, none⟩) n cpt, .slice ac m cpc])) (fun iv _ => n - (intOf iv).toNat)
    case atStart => exact ⟨0, rfl, Nat.zero_le _, hid ⟨fun j t hj _ => by omega, HF3.out, HB3.out⟩⟩
    case round =>
      obtain ⟨i, rfl, hi, HI⟩ := hrel
      have cb : wr.cell? ⟨b, 0, none⟩ = some (.slice (some ⟨g, o, none⟩) n cpt) := HI.out.2.2.cell 0
      have cb1 : wr.cell? ⟨b, 1, none⟩ = some (.slice ac m cpc) := HI.out.2.2.cell 1
      by_cases hlt : i < n
      · obtain ⟨t, ht⟩ : ∃ t, s.tys[i]? = some t := ⟨_, List.getElem?_eq_getElem (by rw [HNN.out]; exact hlt)⟩
        have hlti : (i : Int) < n := by omega
        have hi0 : (0 : Int) ≤ i := by omega
        obtain ⟨g', o', cq, cs, e1, -, -, hr, -, hp⟩ := (TysIn.fr (D := No) HX.out HI.out.2.1 (fun _ _ _ e => e)).get ht
        rw [HNN.out] at e1
        simp only [Value.slice.injEq, Option.some.injEq, Addr.mk.injEq, and_true, true_and] at e1
        obtain ⟨⟨rfl, rfl⟩, rfl⟩ := e1
        obtain ⟨rfl, hz⟩ := hp
        have HZN := hid hz; have HTT := hid ht; have HLT := hid hlt
        have HBAD : Hid (rT s.tys i t = false → R = false) := hid (fun h => bad_ty HR.out ht h)
        obtain ⟨nm2, syn2, one2, shut2, sys2, share2⟩ := t
        have d0 : wr.cell? ⟨g, o + i * 6, none⟩ = some (.string (sb nm2)) := by have := hr 0 _ rfl; simpa using this
        have HD1 : Hid (∀ u, Fr No wr u → u.cell? ⟨g, o + i * 6 + 1, none⟩ = some (.int .i64 syn2)) := hid (fun u f => f.cell (hr 1 _ rfl) id)
        have HD0 : Hid (∀ u, Fr No wr u → u.cell? ⟨g, o + i * 6, none⟩ = some (.string (sb nm2))) := hid (fun u f => f.cell d0 id)
        obtain ⟨A, hA⟩ : ∃ A, idxI s.tys (fun a => low a.nm == low nm2) = A := ⟨_, rfl⟩
        have HA := hid hA
        obtain ⟨T, hT⟩ : ∃ T, typ nm2 = T := ⟨_, rfl⟩
        have HTE := hid hT
        have HRT : Hid (rT s.tys i ⟨nm2, syn2, one2, shut2, sys2, share2⟩ = (T && decide (A = (i : Int)) && (decide (1 ≤ syn2) && decide (syn2 ≤ 5)))) := hid (by unfold rT; rw [hA, hT])
        clear hz ht hr hlt hA hT hi
        go_wp2_with fail
        refine (rType_any nm2 HZN.out wr).mono ?_
        rintro e w4 ⟨rfl, rfl⟩
        rw [HTE.out]
        have e1 : w4.rangeAt b 0 [.slice (some ⟨g, o, none⟩) n cpt, .slice ac m cpc] := HI.out.2.2.range 0 _ rfl
        go_wp2_with fail
        have hold : Facts.hold [(0, fun w' => w'.rangeAt b 0 [.slice (some ⟨g, o, none⟩) n cpt, .slice ac m cpc]), (2, fun w' => w'.cell? ⟨b, 0, none⟩ = some (.slice (some ⟨g, o, none⟩) n cpt)), (6, fun w' => w'.cell? ⟨g, o + i * 6, none⟩ = some (.string (sb nm2)))] w4.drew := Facts.cons_hold e1 (Facts.cons_hold cb (Facts.cons_hold d0 (Facts.nil_hold _)))
        refine wpD_region hold (by kernel_rfl) 9 rfl ?_
        (refine wpD_plain 1 (v := ?_) rfl (by kernel_rfl) (by kernel_rfl) (by kernel_rfl) (fun _ _ _ h => h) (by rfl) ?_ (by assumption) ?_; rotate_left; (intro _w; go_simp; try with_reducible rfl); simp only [Act.put, K.put3])
        (refine wpD_take 2 _ rfl (by kernel_rfl) (by kernel_rfl) (by kernel_rfl) (fun _ _ _ h => h) (List.mem_cons_of_mem _ List.mem_cons_self) (by rfl) (v := ?_) ?_ (by assumption) ?_; rotate_left; (intro _w _hw; go_simp; try with_reducible rfl); simp only [Act.put, K.put3])
        (refine wpD_plain 3 (v := ?_) rfl (by kernel_rfl) (by kernel_rfl) (by kernel_rfl) (fun _ _ _ h => h) (by rfl) ?_ (by assumption) ?_; rotate_left; (intro _w; go_simp; try with_reducible rfl); simp only [Act.put, K.put3])
        (refine wpD_plain 4 (v := ?_) rfl (by kernel_rfl) (by kernel_rfl) (by kernel_rfl) (fun _ _ _ h => h) (by rfl) ?_ (by assumption) ?_; rotate_left; (intro _w; go_simp; try with_reducible rfl); simp only [Act.put, K.put3])
        (refine wpD_plain 5 (v := ?_) rfl (by kernel_rfl) (by kernel_rfl) (by kernel_rfl) (fun _ _ _ h => h) (by rfl) ?_ (by assumption) ?_; rotate_left; (intro _w; go_simp; try with_reducible rfl); simp only [Act.put, K.put3])
        (refine wpD_take 0 _ rfl (by kernel_rfl) (by kernel_rfl) (by kernel_rfl) (fun _ _ _ h => h) List.mem_cons_self (by rfl) (exec_load _ _ rfl b 0 rfl _ _ rfl rfl infoSc4) (by assumption) ?_; simp only [Act.put, K.put3])
        (refine wpD_take 6 _ rfl (by kernel_rfl) (by kernel_rfl) (by kernel_rfl) (fun _ _ _ h => h) (List.mem_cons_of_mem _ (List.mem_cons_of_mem _ List.mem_cons_self)) (by rfl) (v := ?_) ?_ (by assumption) ?_; rotate_left; (intro _w _hw; go_simp; try with_reducible rfl); simp only [Act.put, K.put3])
        clear hold
        refine wpD_only 7 [(2, fun w' => w'.cell? ⟨b, 0, none⟩ = some (.slice (some ⟨g, o, none⟩) n cpt))] rfl (by kernel_rfl) (by kernel_rfl) (by rfl) (fun K7 hK7 => ?_)
        refine wp_call _ _ _ rfl 21 [] rfl (fun vs w => by kernel_rfl) [.agg #[.slice (some ⟨g, o, none⟩) n cpt, .slice ac m cpc], .string (sb nm2)] (by rfl) ?_
        refine (rfind_any _ _ s nm2 w4.drew (TysIn.fr (D := No) HX.out (HI.out.2.1.trans' (Fr.refl No w4).drew) (fun _ _ _ e => e)) (ClsIn.fr (D := No) HY.out (HI.out.2.1.trans' (Fr.refl No w4).drew) (fun _ _ _ e => e)) HZN.out).mono ?_
        rintro e w5 ⟨rfl, f5⟩
        rw [HA.out]
        have HF45 : Hid (Fr No w4 w5) := hid ((Fr.refl No w4).drew.trans' f5)
        have HF5 : Hid (Fr No w w5) := hid (HI.out.2.1.trans' HF45.out)
        have HB5 : Hid (Blk w5 b 33 [.slice (some ⟨g, o, none⟩) n cpt, .slice ac m cpc]) := hid (HI.out.2.2.fr HF45.out id)
        have cb5 : w5.cell? ⟨b, 0, none⟩ = some (.slice (some ⟨g, o, none⟩) n cpt) := HB5.out.cell 0
        refine ⟨_, rfl, hK7 _ _ (Facts.cons_hold cb5 (Facts.nil_hold _)) ?_⟩
        clear hK7 K7 f5 d0 e1 cb cb1
        simp only [Act.put, K.put3]
        have hold : Facts.hold [(2, fun w' => w'.cell? ⟨b, 0, none⟩ = some (.slice (some ⟨g, o, none⟩) n cpt))] w5 := Facts.cons_hold cb5 (Facts.nil_hold _)
        (refine wpD_plain 8 (v := ?_) rfl (by kernel_rfl) (by kernel_rfl) (by kernel_rfl) (fun _ _ _ h => h) (by rfl) ?_ (by assumption) ?_; rotate_left; (intro _w; go_simp; try with_reducible rfl); simp only [Act.put, K.put3])
        clear hold
        refine wpD_done (by kernel_rfl) ?_ _
        have d1 : w5.cell? ⟨g, o + i * 6 + 1, none⟩ = some (.int .i64 syn2) := HD1.out w5 HF45.out
        cases T with
        | false =>
          obtain rfl : R = false := HBAD.out (by rw [HRT.out]; rfl)
          go_wp2_with fail
          go_ret
          exact ⟨rfl, HF5.out⟩
        | true =>
          by_cases hAi : A = (i : Int)
          · subst hAi
            by_cases hs1 : syn2 < 1
            · obtain rfl : R = false := HBAD.out (by rw [HRT.out, decide_eq_false (show ¬ 1 ≤ syn2 by omega)]; simp)
              go_wp2_with fail
              go_ret
              exact ⟨rfl, HF5.out⟩
            · by_cases hs5 : 5 < syn2
              · obtain rfl : R = false := HBAD.out (by rw [HRT.out, decide_eq_false (show ¬ syn2 ≤ 5 by omega)]; simp)
                go_wp2_with fail
                go_ret
                exact ⟨rfl, HF5.out⟩
              · have HOKT : Hid (rT s.tys i ⟨nm2, syn2, one2, shut2, sys2, share2⟩ = true) := hid (by rw [HRT.out, decide_eq_true (show 1 ≤ syn2 by omega), decide_eq_true (show syn2 ≤ 5 by omega), decide_eq_true rfl]; rfl)
                go_wp2_with fail
                refine ⟨⟨i + 1, by go_num, HLT.out, hid ⟨fun j t hj ht => by
                  by_cases hji : j = i
                  · subst hji
                    rw [HTT.out] at ht
                    cases ht
                    exact HOKT.out
                  · exact HI.out.1 j t (by omega) ht, HF5.out, HB5.out⟩⟩, ?_⟩
                have := HLT.out
                simp [intOf]; omega
          · obtain rfl : R = false := HBAD.out (by rw [HRT.out, decide_eq_false hAi]; rfl)
            go_wp2_with fail
            go_ret
            exact ⟨rfl, HF5.out⟩
      · obtain rfl : i = n := by omega
        have HALLT : Hid (∀ j t, s.tys[j]? = some t → rT s.tys j t = true) := hid (fun j t ht => HI.out.1 j t (by have := (List.getElem?_eq_some_iff.1 ht).1; rw [HNN.out] at this; exact this) ht)
        clear hi hlt
        go_wp2_with fail
        clear cb cb1
        have HC0 := hid (show Fr No w wr ∧ Blk wr b 33 [.slice (some ⟨g, o, none⟩) i cpt, .slice ac m cpc] from ⟨HI.out.2.1, HI.out.2.2⟩)
        clear HI
        go_loopw [8] (fun iv wq => ∃ (k : Nat), iv = .int .i64 k ∧ k ≤ m ∧ Hid ((∀ j c, j < k → s.cls[j]? = some c → rC s.tys s.cls j c = true) ∧ Fr No w wq ∧ Blk wq b 33 [.slice (some ⟨g, o, none⟩) i cpt, .slice ac m cpc])) (fun iv _ => m - (intOf iv).toNat)
        case atStart => exact ⟨0, rfl, Nat.zero_le _, hid ⟨fun j t hj _ => by omega, HC0.out⟩⟩
        case round =>
          obtain ⟨k, rfl, hi, HI⟩ := hrel
          have cb1 : wr.cell? ⟨b, 1, none⟩ = some (.slice ac m cpc) := HI.out.2.2.cell 1
          by_cases hlt : k < m
          · obtain ⟨c, hc⟩ : ∃ c, s.cls[k]? = some c := ⟨_, List.getElem?_eq_getElem (by rw [HMM.out]; exact hlt)⟩
            have hlti : (k : Int) < m := by omega
            have hi0 : (0 : Int) ≤ k := by omega
            obtain ⟨gc, oc_, cq, cs, e1, -, -, hr, -, hp⟩ := (ClsIn.fr (D := No) HY.out HI.out.2.1 (fun _ _ _ e => e)).get hc
            rw [HMM.out] at e1
            simp only [Value.slice.injEq, true_and] at e1
            obtain ⟨rfl, rfl⟩ := e1
            obtain ⟨u1, u2, rfl, hzn, hzs, hu1, hu2, -⟩ := hp
            have HZN := hid hzn; have HZS := hid hzs; have HCC := hid hc; have HLT := hid hlt; have HRR := hid hr
            have HU1 := hid hu1; have HU2 := hid hu2
            have HONE : Hid (∀ v ∈ clV c u1 u2, v.oneCell' = true) := hid (oneCl c (by obtain ⟨a, cp, rfl, -⟩ := hu1.form; rfl) (by obtain ⟨a, cp, rfl, -⟩ := hu2.form; rfl))
            have HBAD : Hid (rC s.tys s.cls k c = false → R = false) := hid (fun h => bad_cl HR.out hc h)
            obtain ⟨cnm, kind, sup, must, may⟩ := c
            obtain ⟨A, hA⟩ : ∃ A, idxI s.cls (fun a => low a.nm == low cnm) = A := ⟨_, rfl⟩
            obtain ⟨T, hT⟩ : ∃ T, typ cnm = T := ⟨_, rfl⟩
            obtain ⟨M1, hM1⟩ : ∃ M, isIn s.tys must = M := ⟨_, rfl⟩
            obtain ⟨M2, hM2⟩ : ∃ M, isIn s.tys may = M := ⟨_, rfl⟩
            obtain ⟨U, hU⟩ : ∃ U, supI s.cls k ⟨cnm, kind, sup, must, may⟩ = U := ⟨_, rfl⟩
            have HA := hid hA; have HTE := hid hT; have HM1 := hid hM1; have HM2 := hid hM2; have HU := hid hU
            have HRC : Hid (rC s.tys s.cls k ⟨cnm, kind, sup, must, may⟩ = (T && decide (A = (k : Int)) && (decide (0 ≤ kind) && decide (kind ≤ 2)) && M1 && M2 && U)) := hid (by unfold rC; rw [hA, hT, hM1, hM2, hU])
            clear hzn hzs hc hr hlt hA hT hM1 hM2 hU hu1 hu2 hi
            go_wp2_with (first
              | ((with_reducible refine K.atO (.load 44 _) ?_); refine wpL_load rfl _ _ rfl gc (oc_ + k * 5) rfl (clV ⟨cnm, kind, sup, must, may⟩ u1 u2) _ HRR.out rfl rfl infoCl ?_)
              | ((with_reducible refine K.atO (.alloc 44) ?_); refine wpL_alloc rfl _ rfl _ zeroCl _ rfl ?_; intro y2 HY2 GY2 TY2)
              | ((with_reducible refine K.atO (.store 44 _ _) ?_); refine wpL_store rfl _ _ _ rfl wr.heap.size 0 (clV ⟨cnm, kind, sup, must, may⟩ u1 u2) rfl rfl 44 _ HY2.out (by simp [clV]) infoCl HONE.out ?_; intro y3 HY3 GY3 TY3; refine Hid.out ?_)
              | fail)
            have HF03 : Hid (Fr No wr y3) := hid (GY2.out.trans GY3.out (fun k e => .inr (by have e : k = wr.heap.size := e; omega)))
            have HW3 : Hid (Fr No w y3) := hid (HI.out.2.1.trans' HF03.out)
            have HB3' : Hid (Blk y3 b 33 [.slice (some ⟨g, o, none⟩) i cpt, .slice (some ⟨gc, oc_, none⟩) m cpc]) := hid (HI.out.2.2.fr HF03.out id)
            have HCB3 : Hid (Blk y3 wr.heap.size 44 (clV ⟨cnm, kind, sup, must, may⟩ u1 u2)) := hid HY3.out
            have HRG : Hid (∀ u, Fr No y3 u → u.rangeAt b 0 [.slice (some ⟨g, o, none⟩) i cpt, .slice (some ⟨gc, oc_, none⟩) m cpc]) := hid (fun u f => (HB3'.out.fr f id).range 0 _ rfl)
            have HU1' : Hid (∀ u, Fr No y3 u → LsIn S2 u u1 must) := hid (fun u f => LsIn.fr (D := No) HU1.out (HF03.out.trans' f) (fun _ _ _ e => e))
            have HU2' : Hid (∀ u, Fr No y3 u → LsIn S2 u u2 may) := hid (fun u f => LsIn.fr (D := No) HU2.out (HF03.out.trans' f) (fun _ _ _ e => e))
            have HTS : Hid (∀ u, Fr No y3 u → TysIn S u (.slice (some ⟨g, o, none⟩) i cpt) s.tys) := hid (fun u f => TysIn.fr (D := No) HX.out (HW3.out.trans' f) (fun _ _ _ e => e))
            have HCS : Hid (∀ u, Fr No y3 u → ClsIn S2 u (.slice (some ⟨gc, oc_, none⟩) m cpc) s.cls) := hid (fun u f => ClsIn.fr (D := No) HY.out (HW3.out.trans' f) (fun _ _ _ e => e))
            have HRGC : Hid (∀ u, Fr No y3 u → u.cell? ⟨b, 1, none⟩ = some (.slice (some ⟨gc, oc_, none⟩) m cpc)) := hid (fun u f => (HB3'.out.fr f id).cell 1)
            have HCE : Hid (∀ u, Fr No y3 u → Blk u b 33 [.slice (some ⟨g, o, none⟩) i cpt, .slice (some ⟨gc, oc_, none⟩) m cpc]) := hid (fun u f => HB3'.out.fr f id)
            obtain ⟨cbk, hcbk⟩ : ∃ b, wr.heap.size = b := ⟨_, rfl⟩
            rw [hcbk] at HCB3 ⊢
            have HCL : Hid (∀ u, Fr No y3 u → Blk u cbk 44 (clV ⟨cnm, kind, sup, must, may⟩ u1 u2)) := hid (fun u f => HCB3.out.fr f id)
            have n3 : y3.cell? ⟨cbk, 0, none⟩ = some (.string (sb cnm)) := HCB3.out.cell 0
            have HALL := hid HI.out.1
            clear hcbk HY2 GY2 TY2 HY3 GY3 TY3 cb1 HRR HU1 HU2 HI
            refine hid ?_
            go_wp2_with fail
            refine (rType_any cnm HZN.out y3).mono ?_
            rintro e w4 ⟨rfl, hw4⟩
            subst hw4
            rw [HTE.out]
            go_wp2_with (first
              | ((with_reducible refine K.atO (.load 33 _) ?_); refine wpL_valZ rfl (.agg #[.slice (some ⟨g, o, none⟩) i cpt, .slice (some ⟨gc, oc_, none⟩) m cpc]) (exec_load _ _ rfl b 0 rfl [.slice (some ⟨g, o, none⟩) i cpt, .slice (some ⟨gc, oc_, none⟩) m cpc] _ rfl rfl infoSc4 _ (HRG.out _ (Fr.refl _ _))) ?_)
              | fail)
            refine (rfindC_any _ _ s cnm w4 (HTS.out _ (Fr.refl _ _)) (HCS.out _ (Fr.refl _ _)) HZN.out).mono ?_
            rintro e w5 ⟨rfl, f5⟩
            have HF5 := hid f5
            have n5 : w5.cell? ⟨cbk, 3, none⟩ = some u1 := (HCL.out _ f5).cell 3
            rw [HA.out]
            clear f5 n3
            go_wp2_with (first
              | ((with_reducible refine K.atO (.load 33 _) ?_); refine wpL_valZ rfl (.agg #[.slice (some ⟨g, o, none⟩) i cpt, .slice (some ⟨gc, oc_, none⟩) m cpc]) (exec_load _ _ rfl b 0 rfl [.slice (some ⟨g, o, none⟩) i cpt, .slice (some ⟨gc, oc_, none⟩) m cpc] _ rfl rfl infoSc4 _ (HRG.out _ HF5.out)) ?_)
              | fail)
            refine (named_any _ _ _ s must w5 (HTS.out _ HF5.out) (HCS.out _ HF5.out) (HU1'.out _ HF5.out)).mono ?_
            rintro e w6 ⟨rfl, f6⟩
            have HF6 := hid (HF5.out.trans' f6)
            have n6 : w6.cell? ⟨cbk, 4, none⟩ = some u2 := (HCL.out _ HF6.out).cell 4
            have hm1 : (must.all fun x => decide (0 ≤ idxI s.tys fun a => low a.nm == low x)) = M1 := HM1.out
            rw [hm1]
            clear f6 n5 hm1
            go_wp2_with (first
              | ((with_reducible refine K.atO (.load 33 _) ?_); refine wpL_valZ rfl (.agg #[.slice (some ⟨g, o, none⟩) i cpt, .slice (some ⟨gc, oc_, none⟩) m cpc]) (exec_load _ _ rfl b 0 rfl [.slice (some ⟨g, o, none⟩) i cpt, .slice (some ⟨gc, oc_, none⟩) m cpc] _ rfl rfl infoSc4 _ (HRG.out _ HF6.out)) ?_)
              | fail)
            refine (named_any _ _ _ s may w6 (HTS.out _ HF6.out) (HCS.out _ HF6.out) (HU2'.out _ HF6.out)).mono ?_
            rintro e w7 ⟨rfl, f7⟩
            have HF7 := hid (HF6.out.trans' f7)
            have n7 : w7.cell? ⟨cbk, 1, none⟩ = some (.int .i64 kind) := (HCL.out _ HF7.out).cell 1
            have m7 : w7.cell? ⟨cbk, 2, none⟩ = some (.string (sb sup)) := (HCL.out _ HF7.out).cell 2
            have hm2 : (may.all fun x => decide (0 ≤ idxI s.tys fun a => low a.nm == low x)) = M2 := HM2.out
            rw [hm2]
            have HW7 : Hid (Fr No w w7) := hid (HW3.out.trans' HF7.out)
            clear f7 n6 hm2
            by_cases hgood : T = true ∧ A = (k : Int) ∧ 0 ≤ kind ∧ kind ≤ 2 ∧ M1 = true ∧ M2 = true
            · obtain ⟨rfl, rfl, hk0, hk2, rfl, rfl⟩ := hgood
              have hk0n : ¬ kind < 0 := by omega
              have hk2n : ¬ 2 < kind := by omega
              have HRC2 : Hid (rC s.tys s.cls k ⟨cnm, kind, sup, must, may⟩ = U) := hid (by rw [HRC.out, decide_eq_true rfl, decide_eq_true hk0, decide_eq_true hk2]; simp)
              clear hk0 hk2
              have HNX : Hid (rC s.tys s.cls k ⟨cnm, kind, sup, must, may⟩ = true → ∀ j c, j < k + 1 → s.cls[j]? = some c → rC s.tys s.cls j c = true) := hid (fun h j c hj hc => by
                by_cases hjk : j = k
                · subst hjk
                  rw [HCC.out] at hc
                  cases hc
                  exact h
                · exact HALL.out j c (by omega) hc)
              by_cases h0 : sup = []
              · have HUT : Hid (U = true) := hid (by rw [← HU.out]; unfold supI; rw [if_pos h0])
                have HSP : Hid ((!decide (sup = [])) = false) := hid (by rw [decide_eq_true h0]; rfl)
                clear h0
                go_wp2_with (first
                  | ((with_reducible refine K.atO (.binOp .neq 9 _ _ _) ?_); refine wpL_valZ rfl (.bool false) (by rw [← HSP.out]; exact exec_neS _ _ _ rfl sup [] rfl rfl _) ?_)
                  | fail)
                refine ⟨⟨k + 1, by go_num, HLT.out, hid ⟨HNX.out (by rw [HRC2.out]; exact HUT.out), HW7.out, HCE.out _ HF7.out⟩⟩, ?_⟩
                have := HLT.out
                simp [intOf]; omega
              · have HSP : Hid ((!decide (sup = [])) = true) := hid (by rw [decide_eq_false h0]; rfl)
                obtain ⟨J, hJ⟩ : ∃ J, (idxI s.cls fun a => low a.nm == low sup) = J := ⟨_, rfl⟩
                have HUE : Hid (U = (decide (0 ≤ J) && decide (J < (k : Int)) && (match s.cls[J.toNat]? with | none => false | some d => d.kind == 0 || d.kind == kind))) := hid (by rw [← HU.out]; unfold supI; rw [if_neg h0, hJ]; rfl)
                have HJ := hid hJ
                clear h0 hJ
                go_wp2_with (first
                  | ((with_reducible refine K.atO (.binOp .neq 9 _ _ _) ?_); refine wpL_valZ rfl (.bool true) (by rw [← HSP.out]; exact exec_neS _ _ _ rfl sup [] rfl rfl _) ?_)
                  | ((with_reducible refine K.atO (.load 33 _) ?_); refine wpL_valZ rfl (.agg #[.slice (some ⟨g, o, none⟩) i cpt, .slice (some ⟨gc, oc_, none⟩) m cpc]) (exec_load _ _ rfl b 0 rfl [.slice (some ⟨g, o, none⟩) i cpt, .slice (some ⟨gc, oc_, none⟩) m cpc] _ rfl rfl infoSc4 _ (HRG.out _ HF7.out)) ?_)
                  | fail)
                refine (rfindC_any _ _ s sup w7 (HTS.out _ HF7.out) (HCS.out _ HF7.out) HZS.out).mono ?_
                rintro e w8 ⟨rfl, f8⟩
                have HF8 := hid (HF7.out.trans' f8)
                have HW8 : Hid (Fr No w w8) := hid (HW3.out.trans' HF8.out)
                have n8 : w8.cell? ⟨cbk, 1, none⟩ = some (.int .i64 kind) := (HCL.out _ HF8.out).cell 1
                have b8 : w8.cell? ⟨b, 1, none⟩ = some (.slice (some ⟨gc, oc_, none⟩) m cpc) := HRGC.out _ HF8.out
                rw [HJ.out]
                clear f8 n7 m7
                by_cases hj0 : J < 0
                · obtain rfl : R = false := HBAD.out (by rw [HRC2.out, HUE.out, decide_eq_false (show ¬ 0 ≤ J by omega)]; rfl)
                  go_wp2_with fail
                  go_quiet (fail)
                  go_wp2_with fail
                  go_ret
                  exact ⟨rfl, HW8.out.drewN _⟩
                · by_cases hjk : (k : Int) ≤ J
                  · obtain rfl : R = false := HBAD.out (by rw [HRC2.out, HUE.out, decide_eq_false (show ¬ J < (k : Int) by omega), Bool.and_false]; rfl)
                    have hd0 : decide (J < 0) = false := decide_eq_false hj0
                    have hd1 : decide ((k : Int) ≤ J) = true := decide_eq_true hjk
                    clear hj0 hjk
                    go_wp2_with fail
                    go_quiet (fail)
                    go_wp2_with fail
                    go_ret
                    exact ⟨rfl, HW8.out.drewN _⟩
                  · obtain ⟨q, rfl⟩ : ∃ q : Nat, J = (q : Int) := ⟨J.toNat, by omega⟩
                    have hqk : q < k := by omega
                    have hqm : q < m := by have := HLT.out; omega
                    obtain ⟨d, hd⟩ : ∃ d, s.cls[q]? = some d := ⟨_, List.getElem?_eq_getElem (by rw [HMM.out]; exact hqm)⟩
                    obtain ⟨g9, o9, c9, cs9, e9, -, -, hr9, -, hp9⟩ := (HCS.out _ HF8.out).get hd
                    rw [HMM.out] at e9
                    simp only [Value.slice.injEq, Option.some.injEq, Addr.mk.injEq, and_true, true_and] at e9
                    obtain ⟨⟨rfl, rfl⟩, rfl⟩ := e9
                    obtain ⟨v1, v2, rfl, -⟩ := hp9
                    have HUE2 : Hid (U = (d.kind == 0 || d.kind == kind)) := hid (by rw [HUE.out, decide_eq_true (show (0 : Int) ≤ (q : Int) by omega), decide_eq_true (show (q : Int) < (k : Int) by omega), Int.toNat_natCast, hd]; rfl)
                    have k8 : w8.cell? ⟨gc, oc_ + q * 5 + 1, none⟩ = some (.int .i64 d.kind) := hr9 1 _ rfl
                    have hq0 : (0 : Int) ≤ q := by omega
                    have hqmi : (q : Int) < m := by omega
                    have hqki : decide ((k : Int) ≤ (q : Int)) = false := decide_eq_false (by omega)
                    have hq0n : decide ((q : Int) < 0) = false := decide_eq_false (by omega)
                    obtain ⟨dk, hdk⟩ : ∃ x, d.kind = x := ⟨_, rfl⟩
                    rw [hdk] at HUE2 k8
                    clear hj0 hjk hqk hqm hd hr9 hdk
                    cases hk : (dk == 0) with
                    | true =>
                      have HUT : Hid (U = true) := hid (by rw [HUE2.out, hk]; rfl)
                      go_wp2_with fail
                      have hold : Facts.hold [(9, fun w' => w'.cell? ⟨b, 1, none⟩ = some (.slice (some ⟨gc, oc_, none⟩) m cpc)), (13, fun w' => w'.cell? ⟨gc, oc_ + q * 5 + 1, none⟩ = some (.int .i64 dk))] w8.drew := Facts.cons_hold b8 (Facts.cons_hold k8 (Facts.nil_hold _))
                      refine wpD_region hold (by kernel_rfl) 27 rfl ?_
                      (refine wpD_plain 0 (v := ?_) rfl (by kernel_rfl) (by kernel_rfl) (by kernel_rfl) (fun _ _ _ h => h) (by rfl) ?_ (by assumption) ?_; rotate_left; (intro _w; go_simp; try with_reducible rfl); simp only [Act.put, K.put3])
                      (refine wpD_plain 1 (v := (.bool false)) rfl (by kernel_rfl) (by kernel_rfl) (by kernel_rfl) (fun _ _ _ h => h) (by rfl) ?_ (by assumption) ?_; (intro _w; go_simp; first | done | simp); simp only [Act.put, K.put3])
                      (refine wpD_plain 2 (v := ?_) rfl (by kernel_rfl) (by kernel_rfl) (by kernel_rfl) (fun _ _ _ h => h) (by rfl) ?_ (by assumption) ?_; rotate_left; (intro _w; go_simp; try with_reducible rfl); simp only [Act.put, K.put3])
                      (refine wpD_plain 3 (v := ?_) rfl (by kernel_rfl) (by kernel_rfl) (by kernel_rfl) (fun _ _ _ h => h) (by rfl) ?_ (by assumption) ?_; rotate_left; (intro _w; go_simp; try with_reducible rfl); simp only [Act.put, K.put3])
                      (refine wpD_plain 4 (v := ?_) rfl (by kernel_rfl) (by kernel_rfl) (by kernel_rfl) (fun _ _ _ h => h) (by rfl) ?_ (by assumption) ?_; rotate_left; (intro _w; go_simp; try with_reducible rfl); simp only [Act.put, K.put3])
                      (refine wpD_plain 5 (v := (.bool false)) rfl (by kernel_rfl) (by kernel_rfl) (by kernel_rfl) (fun _ _ _ h => h) (by rfl) ?_ (by assumption) ?_; (intro _w; go_simp; first | done | (have := of_decide_eq_false hqki; omega)); simp only [Act.put, K.put3])
                      (refine wpD_plain 6 (v := ?_) rfl (by kernel_rfl) (by kernel_rfl) (by kernel_rfl) (fun _ _ _ h => h) (by rfl) ?_ (by assumption) ?_; rotate_left; (intro _w; go_simp; try with_reducible rfl); simp only [Act.put, K.put3])
                      (refine wpD_plain 7 (v := ?_) rfl (by kernel_rfl) (by kernel_rfl) (by kernel_rfl) (fun _ _ _ h => h) (by rfl) ?_ (by assumption) ?_; rotate_left; (intro _w; go_simp; try with_reducible rfl); simp only [Act.put, K.put3])
                      (refine wpD_plain 8 (v := ?_) rfl (by kernel_rfl) (by kernel_rfl) (by kernel_rfl) (fun _ _ _ h => h) (by rfl) ?_ (by assumption) ?_; rotate_left; (intro _w; go_simp; try with_reducible rfl); simp only [Act.put, K.put3])
                      (refine wpD_take 9 _ rfl (by kernel_rfl) (by kernel_rfl) (by kernel_rfl) (fun _ _ _ h => h) List.mem_cons_self (by rfl) (v := ?_) ?_ (by assumption) ?_; rotate_left; (intro _w _hw; go_simp; try with_reducible rfl); simp only [Act.put, K.put3])
                      (refine wpD_plain 10 (v := ?_) rfl (by kernel_rfl) (by kernel_rfl) (by kernel_rfl) (fun _ _ _ h => h) (by rfl) ?_ (by assumption) ?_; rotate_left; (intro _w; go_simp; try with_reducible rfl); simp only [Act.put, K.put3])
                      (refine wpD_plain 11 (v := ?_) rfl (by kernel_rfl) (by kernel_rfl) (by kernel_rfl) (fun _ _ _ h => h) (by rfl) ?_ (by assumption) ?_; rotate_left; (intro _w; go_simp; try with_reducible rfl); simp only [Act.put, K.put3])
                      (refine wpD_plain 12 (v := ?_) rfl (by kernel_rfl) (by kernel_rfl) (by kernel_rfl) (fun _ _ _ h => h) (by rfl) ?_ (by assumption) ?_; rotate_left; (intro _w; go_simp; try with_reducible rfl); simp only [Act.put, K.put3])
                      (refine wpD_take 13 _ rfl (by kernel_rfl) (by kernel_rfl) (by kernel_rfl) (fun _ _ _ h => h) (List.mem_cons_of_mem _ List.mem_cons_self) (by rfl) (v := ?_) ?_ (by assumption) ?_; rotate_left; (intro _w _hw; go_simp; try with_reducible rfl); simp only [Act.put, K.put3])
                      (refine wpD_plain 14 (v := (.bool false)) rfl (by kernel_rfl) (by kernel_rfl) (by kernel_rfl) (fun _ _ _ h => h) (by rfl) ?_ (by assumption) ?_; (intro _w; go_simp; first | done | (have hx := hk; simp at hx; omega) | (have hx := hk; simp at hx; simp [hx]) | (have hx := hk; simpa using hx)); simp only [Act.put, K.put3])
                      (refine wpD_plain 15 (v := ?_) rfl (by kernel_rfl) (by kernel_rfl) (by kernel_rfl) (fun _ _ _ h => h) (by rfl) ?_ (by assumption) ?_; rotate_left; (intro _w; go_simp; try with_reducible rfl); simp only [Act.put, K.put3])
                      (refine wpD_skip 16 rfl (by kernel_rfl) (by kernel_rfl) (by kernel_rfl) (fun _ _ _ h => h) (by rfl) (by assumption) ?_; simp only [Act.put, K.put3])
                      (refine wpD_skip 17 rfl (by kernel_rfl) (by kernel_rfl) (by kernel_rfl) (fun _ _ _ h => h) (by rfl) (by assumption) ?_; simp only [Act.put, K.put3])
                      (refine wpD_skip 18 rfl (by kernel_rfl) (by kernel_rfl) (by kernel_rfl) (fun _ _ _ h => h) (by rfl) (by assumption) ?_; simp only [Act.put, K.put3])
                      (refine wpD_skip 19 rfl (by kernel_rfl) (by kernel_rfl) (by kernel_rfl) (fun _ _ _ h => h) (by rfl) (by assumption) ?_; simp only [Act.put, K.put3])
                      (refine wpD_skip 20 rfl (by kernel_rfl) (by kernel_rfl) (by kernel_rfl) (fun _ _ _ h => h) (by rfl) (by assumption) ?_; simp only [Act.put, K.put3])
                      (refine wpD_skip 21 rfl (by kernel_rfl) (by kernel_rfl) (by kernel_rfl) (fun _ _ _ h => h) (by rfl) (by assumption) ?_; simp only [Act.put, K.put3])
                      (refine wpD_skip 22 rfl (by kernel_rfl) (by kernel_rfl) (by kernel_rfl) (fun _ _ _ h => h) (by rfl) (by assumption) ?_; simp only [Act.put, K.put3])
                      (refine wpD_skip 23 rfl (by kernel_rfl) (by kernel_rfl) (by kernel_rfl) (fun _ _ _ h => h) (by rfl) (by assumption) ?_; simp only [Act.put, K.put3])
                      (refine wpD_skip 24 rfl (by kernel_rfl) (by kernel_rfl) (by kernel_rfl) (fun _ _ _ h => h) (by rfl) (by assumption) ?_; simp only [Act.put, K.put3])
                      (refine wpD_plain 25 (v := ?_) rfl (by kernel_rfl) (by kernel_rfl) (by kernel_rfl) (fun _ _ _ h => h) (by rfl) ?_ (by assumption) ?_; rotate_left; (intro _w; go_simp; try with_reducible rfl); simp only [Act.put, K.put3])
                      (refine wpD_plain 26 (v := ?_) rfl (by kernel_rfl) (by kernel_rfl) (by kernel_rfl) (fun _ _ _ h => h) (by rfl) ?_ (by assumption) ?_; rotate_left; (intro _w; go_simp; try with_reducible rfl); simp only [Act.put, K.put3])
                      clear hold
                      refine wpD_done (by kernel_rfl) ?_ _
                      clear b8 k8 n8
                      go_wp2_with fail
                      refine ⟨⟨k + 1, by go_num, HLT.out, hid ⟨HNX.out (by rw [HRC2.out]; exact HUT.out), HW8.out.drew, HCE.out _ HF8.out.drew⟩⟩, ?_⟩
                      have := HLT.out
                      simp [intOf]; omega
                    | false =>
                      cases hk2 : (dk == kind) with
                      | true =>
                        have HUT : Hid (U = true) := hid (by rw [HUE2.out, hk, hk2]; rfl)
                        go_wp2_with fail
                        have hold : Facts.hold [(9, fun w' => w'.cell? ⟨b, 1, none⟩ = some (.slice (some ⟨gc, oc_, none⟩) m cpc)), (13, fun w' => w'.cell? ⟨gc, oc_ + q * 5 + 1, none⟩ = some (.int .i64 dk)), (17, fun w' => w'.cell? ⟨b, 1, none⟩ = some (.slice (some ⟨gc, oc_, none⟩) m cpc)), (21, fun w' => w'.cell? ⟨gc, oc_ + q * 5 + 1, none⟩ = some (.int .i64 dk)), (23, fun w' => w'.cell? ⟨cbk, 1, none⟩ = some (.int .i64 kind))] w8.drew := Facts.cons_hold b8 (Facts.cons_hold k8 (Facts.cons_hold b8 (Facts.cons_hold k8 (Facts.cons_hold n8 (Facts.nil_hold _)))))
                        refine wpD_region hold (by kernel_rfl) 27 rfl ?_
                        (refine wpD_plain 0 (v := ?_) rfl (by kernel_rfl) (by kernel_rfl) (by kernel_rfl) (fun _ _ _ h => h) (by rfl) ?_ (by assumption) ?_; rotate_left; (intro _w; go_simp; try with_reducible rfl); simp only [Act.put, K.put3])
                        (refine wpD_plain 1 (v := (.bool false)) rfl (by kernel_rfl) (by kernel_rfl) (by kernel_rfl) (fun _ _ _ h => h) (by rfl) ?_ (by assumption) ?_; (intro _w; go_simp; first | done | simp); simp only [Act.put, K.put3])
                        (refine wpD_plain 2 (v := ?_) rfl (by kernel_rfl) (by kernel_rfl) (by kernel_rfl) (fun _ _ _ h => h) (by rfl) ?_ (by assumption) ?_; rotate_left; (intro _w; go_simp; try with_reducible rfl); simp only [Act.put, K.put3])
                        (refine wpD_plain 3 (v := ?_) rfl (by kernel_rfl) (by kernel_rfl) (by kernel_rfl) (fun _ _ _ h => h) (by rfl) ?_ (by assumption) ?_; rotate_left; (intro _w; go_simp; try with_reducible rfl); simp only [Act.put, K.put3])
                        (refine wpD_plain 4 (v := ?_) rfl (by kernel_rfl) (by kernel_rfl) (by kernel_rfl) (fun _ _ _ h => h) (by rfl) ?_ (by assumption) ?_; rotate_left; (intro _w; go_simp; try with_reducible rfl); simp only [Act.put, K.put3])
                        (refine wpD_plain 5 (v := (.bool false)) rfl (by kernel_rfl) (by kernel_rfl) (by kernel_rfl) (fun _ _ _ h => h) (by rfl) ?_ (by assumption) ?_; (intro _w; go_simp; first | done | (have := of_decide_eq_false hqki; omega)); simp only [Act.put, K.put3])
                        (refine wpD_plain 6 (v := ?_) rfl (by kernel_rfl) (by kernel_rfl) (by kernel_rfl) (fun _ _ _ h => h) (by rfl) ?_ (by assumption) ?_; rotate_left; (intro _w; go_simp; try with_reducible rfl); simp only [Act.put, K.put3])
                        (refine wpD_plain 7 (v := ?_) rfl (by kernel_rfl) (by kernel_rfl) (by kernel_rfl) (fun _ _ _ h => h) (by rfl) ?_ (by assumption) ?_; rotate_left; (intro _w; go_simp; try with_reducible rfl); simp only [Act.put, K.put3])
                        (refine wpD_plain 8 (v := ?_) rfl (by kernel_rfl) (by kernel_rfl) (by kernel_rfl) (fun _ _ _ h => h) (by rfl) ?_ (by assumption) ?_; rotate_left; (intro _w; go_simp; try with_reducible rfl); simp only [Act.put, K.put3])
                        (refine wpD_take 9 _ rfl (by kernel_rfl) (by kernel_rfl) (by kernel_rfl) (fun _ _ _ h => h) List.mem_cons_self (by rfl) (v := ?_) ?_ (by assumption) ?_; rotate_left; (intro _w _hw; go_simp; try with_reducible rfl); simp only [Act.put, K.put3])
                        (refine wpD_plain 10 (v := ?_) rfl (by kernel_rfl) (by kernel_rfl) (by kernel_rfl) (fun _ _ _ h => h) (by rfl) ?_ (by assumption) ?_; rotate_left; (intro _w; go_simp; try with_reducible rfl); simp only [Act.put, K.put3])
                        (refine wpD_plain 11 (v := ?_) rfl (by kernel_rfl) (by kernel_rfl) (by kernel_rfl) (fun _ _ _ h => h) (by rfl) ?_ (by assumption) ?_; rotate_left; (intro _w; go_simp; try with_reducible rfl); simp only [Act.put, K.put3])
                        (refine wpD_plain 12 (v := ?_) rfl (by kernel_rfl) (by kernel_rfl) (by kernel_rfl) (fun _ _ _ h => h) (by rfl) ?_ (by assumption) ?_; rotate_left; (intro _w; go_simp; try with_reducible rfl); simp only [Act.put, K.put3])
                        (refine wpD_take 13 _ rfl (by kernel_rfl) (by kernel_rfl) (by kernel_rfl) (fun _ _ _ h => h) (List.mem_cons_of_mem _ List.mem_cons_self) (by rfl) (v := ?_) ?_ (by assumption) ?_; rotate_left; (intro _w _hw; go_simp; try with_reducible rfl); simp only [Act.put, K.put3])
                        (refine wpD_plain 14 (v := (.bool true)) rfl (by kernel_rfl) (by kernel_rfl) (by kernel_rfl) (fun _ _ _ h => h) (by rfl) ?_ (by assumption) ?_; (intro _w; go_simp; first | done | (have hx := hk; simp at hx; omega) | (have hx := hk; simp at hx; simp [hx]) | (have hx := hk; simpa using hx)); simp only [Act.put, K.put3])
                        (refine wpD_plain 15 (v := ?_) rfl (by kernel_rfl) (by kernel_rfl) (by kernel_rfl) (fun _ _ _ h => h) (by rfl) ?_ (by assumption) ?_; rotate_left; (intro _w; go_simp; try with_reducible rfl); simp only [Act.put, K.put3])
                        (refine wpD_plain 16 (v := ?_) rfl (by kernel_rfl) (by kernel_rfl) (by kernel_rfl) (fun _ _ _ h => h) (by rfl) ?_ (by assumption) ?_; rotate_left; (intro _w; go_simp; try with_reducible rfl); simp only [Act.put, K.put3])
                        (refine wpD_take 17 _ rfl (by kernel_rfl) (by kernel_rfl) (by kernel_rfl) (fun _ _ _ h => h) (List.mem_cons_of_mem _ (List.mem_cons_of_mem _ List.mem_cons_self)) (by rfl) (v := ?_) ?_ (by assumption) ?_; rotate_left; (intro _w _hw; go_simp; try with_reducible rfl); simp only [Act.put, K.put3])
                        (refine wpD_plain 18 (v := ?_) rfl (by kernel_rfl) (by kernel_rfl) (by kernel_rfl) (fun _ _ _ h => h) (by rfl) ?_ (by assumption) ?_; rotate_left; (intro _w; go_simp; try with_reducible rfl); simp only [Act.put, K.put3])
                        (refine wpD_plain 19 (v := ?_) rfl (by kernel_rfl) (by kernel_rfl) (by kernel_rfl) (fun _ _ _ h => h) (by rfl) ?_ (by assumption) ?_; rotate_left; (intro _w; go_simp; try with_reducible rfl); simp only [Act.put, K.put3])
                        (refine wpD_plain 20 (v := ?_) rfl (by kernel_rfl) (by kernel_rfl) (by kernel_rfl) (fun _ _ _ h => h) (by rfl) ?_ (by assumption) ?_; rotate_left; (intro _w; go_simp; try with_reducible rfl); simp only [Act.put, K.put3])
                        (refine wpD_take 21 _ rfl (by kernel_rfl) (by kernel_rfl) (by kernel_rfl) (fun _ _ _ h => h) (List.mem_cons_of_mem _ (List.mem_cons_of_mem _ (List.mem_cons_of_mem _ List.mem_cons_self))) (by rfl) (v := ?_) ?_ (by assumption) ?_; rotate_left; (intro _w _hw; go_simp; try with_reducible rfl); simp only [Act.put, K.put3])
                        (refine wpD_plain 22 (v := ?_) rfl (by kernel_rfl) (by kernel_rfl) (by kernel_rfl) (fun _ _ _ h => h) (by rfl) ?_ (by assumption) ?_; rotate_left; (intro _w; go_simp; try with_reducible rfl); simp only [Act.put, K.put3])
                        (refine wpD_take 23 _ rfl (by kernel_rfl) (by kernel_rfl) (by kernel_rfl) (fun _ _ _ h => h) (List.mem_cons_of_mem _ (List.mem_cons_of_mem _ (List.mem_cons_of_mem _ (List.mem_cons_of_mem _ List.mem_cons_self)))) (by rfl) (v := ?_) ?_ (by assumption) ?_; rotate_left; (intro _w _hw; go_simp; try with_reducible rfl); simp only [Act.put, K.put3])
                        (refine wpD_plain 24 (v := (.bool false)) rfl (by kernel_rfl) (by kernel_rfl) (by kernel_rfl) (fun _ _ _ h => h) (by rfl) ?_ (by assumption) ?_; (intro _w; go_simp; first | done | (have hx := hk2; simp at hx; omega) | (have hx := hk2; simp at hx; simp [hx]) | (have hx := hk2; simpa using hx)); simp only [Act.put, K.put3])
                        (refine wpD_plain 25 (v := ?_) rfl (by kernel_rfl) (by kernel_rfl) (by kernel_rfl) (fun _ _ _ h => h) (by rfl) ?_ (by assumption) ?_; rotate_left; (intro _w; go_simp; try with_reducible rfl); simp only [Act.put, K.put3])
                        (refine wpD_plain 26 (v := ?_) rfl (by kernel_rfl) (by kernel_rfl) (by kernel_rfl) (fun _ _ _ h => h) (by rfl) ?_ (by assumption) ?_; rotate_left; (intro _w; go_simp; try with_reducible rfl); simp only [Act.put, K.put3])
                        clear hold
                        refine wpD_done (by kernel_rfl) ?_ _
                        clear b8 k8 n8
                        go_wp2_with fail
                        refine ⟨⟨k + 1, by go_num, HLT.out, hid ⟨HNX.out (by rw [HRC2.out]; exact HUT.out), HW8.out.drew, HCE.out _ HF8.out.drew⟩⟩, ?_⟩
                        have := HLT.out
                        simp [intOf]; omega
                      | false =>
                        obtain rfl : R = false := HBAD.out (by rw [HRC2.out, HUE2.out, hk, hk2]; rfl)
                        go_wp2_with fail
                        have hold : Facts.hold [(9, fun w' => w'.cell? ⟨b, 1, none⟩ = some (.slice (some ⟨gc, oc_, none⟩) m cpc)), (13, fun w' => w'.cell? ⟨gc, oc_ + q * 5 + 1, none⟩ = some (.int .i64 dk)), (17, fun w' => w'.cell? ⟨b, 1, none⟩ = some (.slice (some ⟨gc, oc_, none⟩) m cpc)), (21, fun w' => w'.cell? ⟨gc, oc_ + q * 5 + 1, none⟩ = some (.int .i64 dk)), (23, fun w' => w'.cell? ⟨cbk, 1, none⟩ = some (.int .i64 kind))] w8.drew := Facts.cons_hold b8 (Facts.cons_hold k8 (Facts.cons_hold b8 (Facts.cons_hold k8 (Facts.cons_hold n8 (Facts.nil_hold _)))))
                        refine wpD_region hold (by kernel_rfl) 27 rfl ?_
                        (refine wpD_plain 0 (v := ?_) rfl (by kernel_rfl) (by kernel_rfl) (by kernel_rfl) (fun _ _ _ h => h) (by rfl) ?_ (by assumption) ?_; rotate_left; (intro _w; go_simp; try with_reducible rfl); simp only [Act.put, K.put3])
                        (refine wpD_plain 1 (v := (.bool false)) rfl (by kernel_rfl) (by kernel_rfl) (by kernel_rfl) (fun _ _ _ h => h) (by rfl) ?_ (by assumption) ?_; (intro _w; go_simp; first | done | simp); simp only [Act.put, K.put3])
                        (refine wpD_plain 2 (v := ?_) rfl (by kernel_rfl) (by kernel_rfl) (by kernel_rfl) (fun _ _ _ h => h) (by rfl) ?_ (by assumption) ?_; rotate_left; (intro _w; go_simp; try with_reducible rfl); simp only [Act.put, K.put3])
                        (refine wpD_plain 3 (v := ?_) rfl (by kernel_rfl) (by kernel_rfl) (by kernel_rfl) (fun _ _ _ h => h) (by rfl) ?_ (by assumption) ?_; rotate_left; (intro _w; go_simp; try with_reducible rfl); simp only [Act.put, K.put3])
                        (refine wpD_plain 4 (v := ?_) rfl (by kernel_rfl) (by kernel_rfl) (by kernel_rfl) (fun _ _ _ h => h) (by rfl) ?_ (by assumption) ?_; rotate_left; (intro _w; go_simp; try with_reducible rfl); simp only [Act.put, K.put3])
                        (refine wpD_plain 5 (v := (.bool false)) rfl (by kernel_rfl) (by kernel_rfl) (by kernel_rfl) (fun _ _ _ h => h) (by rfl) ?_ (by assumption) ?_; (intro _w; go_simp; first | done | (have := of_decide_eq_false hqki; omega)); simp only [Act.put, K.put3])
                        (refine wpD_plain 6 (v := ?_) rfl (by kernel_rfl) (by kernel_rfl) (by kernel_rfl) (fun _ _ _ h => h) (by rfl) ?_ (by assumption) ?_; rotate_left; (intro _w; go_simp; try with_reducible rfl); simp only [Act.put, K.put3])
                        (refine wpD_plain 7 (v := ?_) rfl (by kernel_rfl) (by kernel_rfl) (by kernel_rfl) (fun _ _ _ h => h) (by rfl) ?_ (by assumption) ?_; rotate_left; (intro _w; go_simp; try with_reducible rfl); simp only [Act.put, K.put3])
                        (refine wpD_plain 8 (v := ?_) rfl (by kernel_rfl) (by kernel_rfl) (by kernel_rfl) (fun _ _ _ h => h) (by rfl) ?_ (by assumption) ?_; rotate_left; (intro _w; go_simp; try with_reducible rfl); simp only [Act.put, K.put3])
                        (refine wpD_take 9 _ rfl (by kernel_rfl) (by kernel_rfl) (by kernel_rfl) (fun _ _ _ h => h) List.mem_cons_self (by rfl) (v := ?_) ?_ (by assumption) ?_; rotate_left; (intro _w _hw; go_simp; try with_reducible rfl); simp only [Act.put, K.put3])
                        (refine wpD_plain 10 (v := ?_) rfl (by kernel_rfl) (by kernel_rfl) (by kernel_rfl) (fun _ _ _ h => h) (by rfl) ?_ (by assumption) ?_; rotate_left; (intro _w; go_simp; try with_reducible rfl); simp only [Act.put, K.put3])
                        (refine wpD_plain 11 (v := ?_) rfl (by kernel_rfl) (by kernel_rfl) (by kernel_rfl) (fun _ _ _ h => h) (by rfl) ?_ (by assumption) ?_; rotate_left; (intro _w; go_simp; try with_reducible rfl); simp only [Act.put, K.put3])
                        (refine wpD_plain 12 (v := ?_) rfl (by kernel_rfl) (by kernel_rfl) (by kernel_rfl) (fun _ _ _ h => h) (by rfl) ?_ (by assumption) ?_; rotate_left; (intro _w; go_simp; try with_reducible rfl); simp only [Act.put, K.put3])
                        (refine wpD_take 13 _ rfl (by kernel_rfl) (by kernel_rfl) (by kernel_rfl) (fun _ _ _ h => h) (List.mem_cons_of_mem _ List.mem_cons_self) (by rfl) (v := ?_) ?_ (by assumption) ?_; rotate_left; (intro _w _hw; go_simp; try with_reducible rfl); simp only [Act.put, K.put3])
                        (refine wpD_plain 14 (v := (.bool true)) rfl (by kernel_rfl) (by kernel_rfl) (by kernel_rfl) (fun _ _ _ h => h) (by rfl) ?_ (by assumption) ?_; (intro _w; go_simp; first | done | (have hx := hk; simp at hx; omega) | (have hx := hk; simp at hx; simp [hx]) | (have hx := hk; simpa using hx)); simp only [Act.put, K.put3])
                        (refine wpD_plain 15 (v := ?_) rfl (by kernel_rfl) (by kernel_rfl) (by kernel_rfl) (fun _ _ _ h => h) (by rfl) ?_ (by assumption) ?_; rotate_left; (intro _w; go_simp; try with_reducible rfl); simp only [Act.put, K.put3])
                        (refine wpD_plain 16 (v := ?_) rfl (by kernel_rfl) (by kernel_rfl) (by kernel_rfl) (fun _ _ _ h => h) (by rfl) ?_ (by assumption) ?_; rotate_left; (intro _w; go_simp; try with_reducible rfl); simp only [Act.put, K.put3])
                        (refine wpD_take 17 _ rfl (by kernel_rfl) (by kernel_rfl) (by kernel_rfl) (fun _ _ _ h => h) (List.mem_cons_of_mem _ (List.mem_cons_of_mem _ List.mem_cons_self)) (by rfl) (v := ?_) ?_ (by assumption) ?_; rotate_left; (intro _w _hw; go_simp; try with_reducible rfl); simp only [Act.put, K.put3])
                        (refine wpD_plain 18 (v := ?_) rfl (by kernel_rfl) (by kernel_rfl) (by kernel_rfl) (fun _ _ _ h => h) (by rfl) ?_ (by assumption) ?_; rotate_left; (intro _w; go_simp; try with_reducible rfl); simp only [Act.put, K.put3])
                        (refine wpD_plain 19 (v := ?_) rfl (by kernel_rfl) (by kernel_rfl) (by kernel_rfl) (fun _ _ _ h => h) (by rfl) ?_ (by assumption) ?_; rotate_left; (intro _w; go_simp; try with_reducible rfl); simp only [Act.put, K.put3])
                        (refine wpD_plain 20 (v := ?_) rfl (by kernel_rfl) (by kernel_rfl) (by kernel_rfl) (fun _ _ _ h => h) (by rfl) ?_ (by assumption) ?_; rotate_left; (intro _w; go_simp; try with_reducible rfl); simp only [Act.put, K.put3])
                        (refine wpD_take 21 _ rfl (by kernel_rfl) (by kernel_rfl) (by kernel_rfl) (fun _ _ _ h => h) (List.mem_cons_of_mem _ (List.mem_cons_of_mem _ (List.mem_cons_of_mem _ List.mem_cons_self))) (by rfl) (v := ?_) ?_ (by assumption) ?_; rotate_left; (intro _w _hw; go_simp; try with_reducible rfl); simp only [Act.put, K.put3])
                        (refine wpD_plain 22 (v := ?_) rfl (by kernel_rfl) (by kernel_rfl) (by kernel_rfl) (fun _ _ _ h => h) (by rfl) ?_ (by assumption) ?_; rotate_left; (intro _w; go_simp; try with_reducible rfl); simp only [Act.put, K.put3])
                        (refine wpD_take 23 _ rfl (by kernel_rfl) (by kernel_rfl) (by kernel_rfl) (fun _ _ _ h => h) (List.mem_cons_of_mem _ (List.mem_cons_of_mem _ (List.mem_cons_of_mem _ (List.mem_cons_of_mem _ List.mem_cons_self)))) (by rfl) (v := ?_) ?_ (by assumption) ?_; rotate_left; (intro _w _hw; go_simp; try with_reducible rfl); simp only [Act.put, K.put3])
                        (refine wpD_plain 24 (v := (.bool true)) rfl (by kernel_rfl) (by kernel_rfl) (by kernel_rfl) (fun _ _ _ h => h) (by rfl) ?_ (by assumption) ?_; (intro _w; go_simp; first | done | (have hx := hk2; simp at hx; omega) | (have hx := hk2; simp at hx; simp [hx]) | (have hx := hk2; simpa using hx)); simp only [Act.put, K.put3])
                        (refine wpD_plain 25 (v := ?_) rfl (by kernel_rfl) (by kernel_rfl) (by kernel_rfl) (fun _ _ _ h => h) (by rfl) ?_ (by assumption) ?_; rotate_left; (intro _w; go_simp; try with_reducible rfl); simp only [Act.put, K.put3])
                        (refine wpD_plain 26 (v := ?_) rfl (by kernel_rfl) (by kernel_rfl) (by kernel_rfl) (fun _ _ _ h => h) (by rfl) ?_ (by assumption) ?_; rotate_left; (intro _w; go_simp; try with_reducible rfl); simp only [Act.put, K.put3])
                        clear hold
                        refine wpD_done (by kernel_rfl) ?_ _
                        clear b8 k8 n8
                        go_wp2_with fail
                        go_ret
                        exact ⟨rfl, HW8.out.drew⟩
            · obtain rfl : R = false := HBAD.out (by
                rw [HRC.out]
                cases hb : (T && decide (A = (k : Int)) && (decide (0 ≤ kind) && decide (kind ≤ 2)) && M1 && M2 && U) with
                | false => rfl
                | true =>
                  simp only [Bool.and_eq_true, decide_eq_true_eq] at hb
                  exact absurd ⟨hb.1.1.1.1.1, hb.1.1.1.1.2, hb.1.1.1.2.1, hb.1.1.1.2.2, hb.1.1.2, hb.1.2⟩ hgood)
              cases T with
              | false =>
                clear hgood
                go_wp2_with fail
                go_ret
                exact ⟨rfl, HW7.out⟩
              | true =>
                by_cases hAk : A = (k : Int)
                · subst hAk
                  by_cases hk0 : kind < 0
                  · clear hgood
                    go_wp2_with fail
                    go_ret
                    exact ⟨rfl, HW7.out⟩
                  · by_cases hk2 : 2 < kind
                    · clear hgood
                      go_wp2_with fail
                      go_ret
                      exact ⟨rfl, HW7.out⟩
                    · cases M1 with
                      | false =>
                        clear hgood
                        go_wp2_with fail
                        go_ret
                        exact ⟨rfl, HW7.out⟩
                      | true =>
                        cases M2 with
                        | false =>
                          clear hgood
                          go_wp2_with fail
                          go_ret
                          exact ⟨rfl, HW7.out⟩
                        | true => exact absurd ⟨rfl, rfl, by omega, by omega, rfl, rfl⟩ hgood
                · clear hgood
                  go_wp2_with fail
                  go_ret
                  exact ⟨rfl, HW7.out⟩
          · obtain rfl : k = m := by omega
            obtain rfl : R = true := by
              rw [← HR.out]
              refine (okS_iff s).2 ⟨by rw [HNN.out, HMM.out]; exact HBDS.out, fun t ht => ?_, HALLT.out, fun j c hc => HI.out.1 j c (by have := (List.getElem?_eq_some_iff.1 hc).1; rw [HMM.out] at this; exact this) hc⟩
              rw [HT0.out] at ht
              cases ht
              rw [HFE.out]
              rfl
            go_wp2_with fail
            go_ret
            exact ⟨rfl, HI.out.2.1⟩
end Go.Proofs.YtooodoacpdhbfaaGreatDoor.SC
