/-
  The document's One: are two names one, as they stand?
-/
import Derived.Test.YthjmkfpdbbfcpaaGreatDoorDnG
set_option linter.unusedVariables false
set_option linter.unusedSimpArgs false
namespace Go.Proofs.YthjmkfpdbbfcpaaGreatDoor.DN
set_option maxRecDepth 100000
open Go.RowKit K Go.Proofs.YthjmkfpdbbfcpaaGreatDoor.BE

theorem exec_neI {op : Oper} {a : Act} (x y : Operand) (t u : TypeId) (ho : op.op = .binOp .neq t x y u) (k : IntKind) (m n : Int) (hx : a.eval x = .int k m) (hy : a.eval y = .int k n) (b : Bool) (hb : (m != n) = b) (w : World) :
    (execOp a.eval op).run Tryz.prog w = .ok (.value (.bool b)) w := by
  subst hb
  unfold execOp
  simp only [ho, hx, hy]
  simp [go_sem, eqGuard, Result.andThen]
set_option maxHeartbeats 16000000 in
theorem one_any (E E2 : Nat → Prop) (v v2 : Value) (r s : Nm) (w : World) (h : NmIn E w v r) (h2 : NmIn E2 w v2 s) : Calls Tryz.prog 7 #[v, v2] w fun e w' => e = .returned (.bool (decide (r = s))) ∧ Fr No w w' := by
  obtain ⟨a, cp, rfl, -, hl0⟩ := h.form
  obtain ⟨a2, cp2, rfl, -, hl2⟩ := h2.form
  have HX := hid h; have HY := hid h2
  obtain ⟨n, hn⟩ : ∃ n, r.length = n := ⟨_, rfl⟩
  obtain ⟨m, hm⟩ : ∃ m, s.length = m := ⟨_, rfl⟩
  obtain ⟨R, hR⟩ : ∃ R, decide (r = s) = R := ⟨_, rfl⟩
  rw [hR]
  rw [hn] at HX hl0 ⊢
  rw [hm] at HY hl2 ⊢
  have HNN := hid hn; have HMM := hid hm
  by_cases hnm : n = m
  · subst hnm
    have HR := hid hR
    have hni : (n : Int) ≤ 140737488351232 := by omega
    clear h h2 hn hm hR
    go_enter Tryz.func7, Tryz.ntmps7
    go_wp2_with fail
    go_loopw [5] (fun iv wr => ∃ (i : Nat), iv = .int .i64 i ∧ i ≤ n ∧ Hid (Fr No w wr) ∧ Hid (r.take i = s.take i)) (fun iv _ => n - (intOf iv).toNat)
    case atStart => exact ⟨0, rfl, Nat.zero_le _, hid (Fr.refl _ _), hid rfl⟩
    case round =>
      obtain ⟨i, rfl, hi, HF, HT⟩ := hrel
      by_cases hlt : i < n
      · obtain ⟨x, hx⟩ : ∃ x, r[i]? = some x := ⟨_, List.getElem?_eq_getElem (by rw [HNN.out]; exact hlt)⟩
        obtain ⟨y, hy⟩ : ∃ y, s[i]? = some y := ⟨_, List.getElem?_eq_getElem (by rw [HMM.out]; exact hlt)⟩
        have hlti : (i : Int) < n := by omega
        have hi0 : (0 : Int) ≤ i := by omega
        obtain ⟨g, o, cq, c, e1, -, hgw, hrr, hc, hxa⟩ := (NmIn.no HX.out HF.out).get hx
        rw [HNN.out] at e1
        simp only [Value.slice.injEq, true_and] at e1
        obtain ⟨rfl, rfl⟩ := e1
        obtain ⟨vx, rfl, hvx⟩ := hxa
        have hcell : wr.cell? ⟨g, o + i, none⟩ = some vx := by have := hrr 0 vx rfl; simpa using this
        obtain ⟨g2, o2, cq2, c2, e2, -, hgw2, hrr2, hc2, hya⟩ := (NmIn.no HY.out HF.out).get hy
        rw [HMM.out] at e2
        simp only [Value.slice.injEq, true_and] at e2
        obtain ⟨rfl, rfl⟩ := e2
        obtain ⟨vy, rfl, hvy⟩ := hya
        have hcell2 : wr.cell? ⟨g2, o2 + i, none⟩ = some vy := by have := hrr2 0 vy rfl; simpa using this
        have HVX := hid hvx; have HVY := hid hvy
        obtain ⟨xa, xc, rfl, -, hxl⟩ := Sl.form hvx
        obtain ⟨ya, yc, rfl, -, hyl⟩ := Sl.form hvy
        have HTS := hid (take_snoc hx hy HT.out)
        have HNA := hid (fun hne : x ≠ y => neq_at hx hy hne)
        have HLT := hid hlt
        have HCE := hid hcell; have HCE2 := hid hcell2
        obtain ⟨xl, hxn⟩ : ∃ xl, x.length = xl := ⟨_, rfl⟩
        obtain ⟨yl, hyn⟩ : ∃ yl, y.length = yl := ⟨_, rfl⟩
        rw [hxn] at HVX hcell HCE hxl
        rw [hyn] at HVY hcell2 HCE2 hyl
        have HXN := hid hxn; have HYN := hid hyn
        have hxi : (xl : Int) ≤ 140737488351232 := by omega
        clear hc hgw hc2 hgw2 hx hy hlt hi hrr hrr2 hvx hvy
        go_wp2_with fail
        have hold : Facts.hold [(3, fun w' => w'.cell? ⟨g, o + i, none⟩ = some (.slice xa xl xc)), (8, fun w' => w'.cell? ⟨g2, o2 + i, none⟩ = some (.slice ya yl yc))] wr.drew := Facts.cons_hold hcell (Facts.cons_hold hcell2 (Facts.nil_hold _))
        refine wpD_region hold (by kernel_rfl) 11 rfl ?_
        (refine wpD_plain 0 (v := ?_) rfl (by kernel_rfl) (by kernel_rfl) (by kernel_rfl) (fun _ _ _ h => h) (by rfl) ?_ (by assumption) ?_; rotate_left; (intro _w; go_simp; try with_reducible rfl); simp only [Act.put, K.put3])
        (refine wpD_plain 1 (v := ?_) rfl (by kernel_rfl) (by kernel_rfl) (by kernel_rfl) (fun _ _ _ h => h) (by rfl) ?_ (by assumption) ?_; rotate_left; (intro _w; go_simp; try with_reducible rfl); simp only [Act.put, K.put3])
        (refine wpD_plain 2 (v := (.pointer (some ⟨g, o + i, none⟩))) rfl (by kernel_rfl) (by kernel_rfl) (by kernel_rfl) (fun _ _ _ h => h) (by rfl) ?_ (by assumption) ?_; (intro _w; go_simp; skip); simp only [Act.put, K.put3])
        (refine wpD_take 3 _ rfl (by kernel_rfl) (by kernel_rfl) (by kernel_rfl) (fun _ _ _ h => h) List.mem_cons_self (by rfl) (v := ?_) ?_ (by assumption) ?_; rotate_left; (intro _w _hw; go_simp; try with_reducible rfl); simp only [Act.put, K.put3])
        (refine wpD_plain 4 (v := ?_) rfl (by kernel_rfl) (by kernel_rfl) (by kernel_rfl) (fun _ _ _ h => h) (by rfl) ?_ (by assumption) ?_; rotate_left; (intro _w; go_simp; try with_reducible rfl); simp only [Act.put, K.put3])
        (refine wpD_plain 5 (v := ?_) rfl (by kernel_rfl) (by kernel_rfl) (by kernel_rfl) (fun _ _ _ h => h) (by rfl) ?_ (by assumption) ?_; rotate_left; (intro _w; go_simp; try with_reducible rfl); simp only [Act.put, K.put3])
        (refine wpD_plain 6 (v := ?_) rfl (by kernel_rfl) (by kernel_rfl) (by kernel_rfl) (fun _ _ _ h => h) (by rfl) ?_ (by assumption) ?_; rotate_left; (intro _w; go_simp; try with_reducible rfl); simp only [Act.put, K.put3])
        (refine wpD_plain 7 (v := (.pointer (some ⟨g2, o2 + i, none⟩))) rfl (by kernel_rfl) (by kernel_rfl) (by kernel_rfl) (fun _ _ _ h => h) (by rfl) ?_ (by assumption) ?_; (intro _w; go_simp; skip); simp only [Act.put, K.put3])
        (refine wpD_take 8 _ rfl (by kernel_rfl) (by kernel_rfl) (by kernel_rfl) (fun _ _ _ h => h) (List.mem_cons_of_mem _ List.mem_cons_self) (by rfl) (v := ?_) ?_ (by assumption) ?_; rotate_left; (intro _w _hw; go_simp; try with_reducible rfl); simp only [Act.put, K.put3])
        (refine wpD_plain 9 (v := ?_) rfl (by kernel_rfl) (by kernel_rfl) (by kernel_rfl) (fun _ _ _ h => h) (by rfl) ?_ (by assumption) ?_; rotate_left; (intro _w; go_simp; try with_reducible rfl); simp only [Act.put, K.put3])
        by_cases hxy : xl = yl
        · (refine wpD_plain 10 (v := (.bool false)) rfl (by kernel_rfl) (by kernel_rfl) (by kernel_rfl) (fun _ _ _ h => h) (by rfl) ?_ (by assumption) ?_; (intro _w; exact exec_neI _ _ _ _ rfl .i64 (xl : Int) (yl : Int) rfl rfl _ (by rw [hxy]; simp) _w); simp only [Act.put, K.put3])
          subst hxy
          have HFd : Hid (Fr No w wr.drew) := hid HF.out.drew
          clear hold hxn hyn
          refine wpD_done (by kernel_rfl) ?_ _
          obtain ⟨W, hW⟩ : ∃ W, wr.drew = W := ⟨_, rfl⟩
          have hcw : W.cell? ⟨g, o + i, none⟩ = some (.slice xa xl xc) := by rw [← hW]; exact HCE.out
          have hcw2 : W.cell? ⟨g2, o2 + i, none⟩ = some (.slice ya xl yc) := by rw [← hW]; exact HCE2.out
          rw [hW] at HFd ⊢
          have HVXW : Hid (RdIn E W (.slice xa xl xc) x) := hid (by rw [← hW]; exact HVX.out)
          have HVYW : Hid (RdIn E2 W (.slice ya xl yc) y) := hid (by rw [← hW]; exact HVY.out)
          have HCW := hid hcw; have HCW2 := hid hcw2
          clear hcell hcell2 hW HCE HCE2 HVX HVY
          go_wp2_with fail
          go_loopw [6] (fun kv wr2 => ∃ (k : Nat), kv = .int .i64 k ∧ k ≤ xl ∧ Hid (Fr No W wr2) ∧ Hid (x.take k = y.take k)) (fun kv _ => xl - (intOf kv).toNat)
          case atStart => exact ⟨0, rfl, Nat.zero_le _, hid (Fr.refl _ _), hid rfl⟩
          case round =>
            obtain ⟨k, rfl, hk, HF2, HT2⟩ := hrel
            by_cases hlk : k < xl
            · obtain ⟨p, hp⟩ : ∃ p, x[k]? = some p := ⟨_, List.getElem?_eq_getElem (by rw [HXN.out]; exact hlk)⟩
              obtain ⟨q, hq⟩ : ∃ q, y[k]? = some q := ⟨_, List.getElem?_eq_getElem (by rw [HYN.out]; exact hlk)⟩
              have hlki : (k : Int) < xl := by omega
              have hk0 : (0 : Int) ≤ k := by omega
              have hd1 : wr.cell? ⟨g, o + i, none⟩ = some (.slice xa xl xc) := HF2.out.cell HCW.out id
              have hd2 : wr.cell? ⟨g2, o2 + i, none⟩ = some (.slice ya xl yc) := HF2.out.cell HCW2.out id
              obtain ⟨g3, o3, cq3, c3, e3, -, hgw3, hrr3, hc3, hxa⟩ := (RdIn.no HVXW.out HF2.out).get hp
              rw [HXN.out] at e3
              simp only [Value.slice.injEq, true_and] at e3
              obtain ⟨rfl, rfl⟩ := e3
              obtain ⟨rfl, -, -⟩ := hxa
              obtain ⟨g4, o4, cq4, c4, e4, -, hgw4, hrr4, hc4, hya⟩ := (RdIn.no HVYW.out HF2.out).get hq
              rw [HYN.out] at e4
              simp only [Value.slice.injEq, true_and] at e4
              obtain ⟨rfl, rfl⟩ := e4
              obtain ⟨rfl, -, -⟩ := hya
              have HTS2 := hid (take_snoc hp hq HT2.out)
              have HNA2 := hid (fun hne : p ≠ q => neq_at hp hq hne)
              have HLK := hid hlk
              clear hc3 hgw3 hc4 hgw4 hp hq hlk hk
              go_wp2_with fail
              have hold : Facts.hold [(3, fun w' => w'.cell? ⟨g, o + i, none⟩ = some (.slice (some ⟨g3, o3, none⟩) xl xc)), (6, fun w' => w'.rangeAt g3 (o3 + k * 2) [.string (sb p.1), .string (sb p.2)]), (10, fun w' => w'.cell? ⟨g2, o2 + i, none⟩ = some (.slice (some ⟨g4, o4, none⟩) xl yc)), (13, fun w' => w'.rangeAt g4 (o4 + k * 2) [.string (sb q.1), .string (sb q.2)])] wr.drew := Facts.cons_hold hd1 (Facts.cons_hold hrr3 (Facts.cons_hold hd2 (Facts.cons_hold hrr4 (Facts.nil_hold _))))
              refine wpD_region hold (by kernel_rfl) 15 rfl ?_
              (refine wpD_plain 0 (v := ?_) rfl (by kernel_rfl) (by kernel_rfl) (by kernel_rfl) (fun _ _ _ h => h) (by rfl) ?_ (by assumption) ?_; rotate_left; (intro _w; go_simp; try with_reducible rfl); simp only [Act.put, K.put3])
              (refine wpD_plain 1 (v := ?_) rfl (by kernel_rfl) (by kernel_rfl) (by kernel_rfl) (fun _ _ _ h => h) (by rfl) ?_ (by assumption) ?_; rotate_left; (intro _w; go_simp; try with_reducible rfl); simp only [Act.put, K.put3])
              (refine wpD_plain 2 (v := (.pointer (some ⟨g, o + i, none⟩))) rfl (by kernel_rfl) (by kernel_rfl) (by kernel_rfl) (fun _ _ _ h => h) (by rfl) ?_ (by assumption) ?_; (intro _w; go_simp; skip); simp only [Act.put, K.put3])
              (refine wpD_take 3 _ rfl (by kernel_rfl) (by kernel_rfl) (by kernel_rfl) (fun _ _ _ h => h) List.mem_cons_self (by rfl) (v := ?_) ?_ (by assumption) ?_; rotate_left; (intro _w _hw; go_simp; try with_reducible rfl); simp only [Act.put, K.put3])
              (refine wpD_plain 4 (v := ?_) rfl (by kernel_rfl) (by kernel_rfl) (by kernel_rfl) (fun _ _ _ h => h) (by rfl) ?_ (by assumption) ?_; rotate_left; (intro _w; go_simp; try with_reducible rfl); simp only [Act.put, K.put3])
              (refine wpD_plain 5 (v := (.pointer (some ⟨g3, o3 + k * 2, none⟩))) rfl (by kernel_rfl) (by kernel_rfl) (by kernel_rfl) (fun _ _ _ h => h) (by rfl) ?_ (by assumption) ?_; (intro _w; go_simp; skip); simp only [Act.put, K.put3])
              (refine wpD_take 6 _ rfl (by kernel_rfl) (by kernel_rfl) (by kernel_rfl) (fun _ _ _ h => h) (List.mem_cons_of_mem _ List.mem_cons_self) (by rfl) (exec_load _ _ rfl g3 (o3 + k * 2) rfl _ _ rfl rfl infoAv) (by assumption) ?_; simp only [Act.put, K.put3])
              (refine wpD_plain 7 (v := ?_) rfl (by kernel_rfl) (by kernel_rfl) (by kernel_rfl) (fun _ _ _ h => h) (by rfl) ?_ (by assumption) ?_; rotate_left; (intro _w; go_simp; try with_reducible rfl); simp only [Act.put, K.put3])
              (refine wpD_plain 8 (v := ?_) rfl (by kernel_rfl) (by kernel_rfl) (by kernel_rfl) (fun _ _ _ h => h) (by rfl) ?_ (by assumption) ?_; rotate_left; (intro _w; go_simp; try with_reducible rfl); simp only [Act.put, K.put3])
              (refine wpD_plain 9 (v := (.pointer (some ⟨g2, o2 + i, none⟩))) rfl (by kernel_rfl) (by kernel_rfl) (by kernel_rfl) (fun _ _ _ h => h) (by rfl) ?_ (by assumption) ?_; (intro _w; go_simp; skip); simp only [Act.put, K.put3])
              (refine wpD_take 10 _ rfl (by kernel_rfl) (by kernel_rfl) (by kernel_rfl) (fun _ _ _ h => h) (List.mem_cons_of_mem _ (List.mem_cons_of_mem _ List.mem_cons_self)) (by rfl) (v := ?_) ?_ (by assumption) ?_; rotate_left; (intro _w _hw; go_simp; try with_reducible rfl); simp only [Act.put, K.put3])
              (refine wpD_plain 11 (v := ?_) rfl (by kernel_rfl) (by kernel_rfl) (by kernel_rfl) (fun _ _ _ h => h) (by rfl) ?_ (by assumption) ?_; rotate_left; (intro _w; go_simp; try with_reducible rfl); simp only [Act.put, K.put3])
              (refine wpD_plain 12 (v := (.pointer (some ⟨g4, o4 + k * 2, none⟩))) rfl (by kernel_rfl) (by kernel_rfl) (by kernel_rfl) (fun _ _ _ h => h) (by rfl) ?_ (by assumption) ?_; (intro _w; go_simp; skip); simp only [Act.put, K.put3])
              (refine wpD_take 13 _ rfl (by kernel_rfl) (by kernel_rfl) (by kernel_rfl) (fun _ _ _ h => h) (List.mem_cons_of_mem _ (List.mem_cons_of_mem _ (List.mem_cons_of_mem _ List.mem_cons_self))) (by rfl) (exec_load _ _ rfl g4 (o4 + k * 2) rfl _ _ rfl rfl infoAv) (by assumption) ?_; simp only [Act.put, K.put3])
              by_cases hpq : p = q
              · (refine wpD_plain 14 (v := (.bool false)) rfl (by kernel_rfl) (by kernel_rfl) (by kernel_rfl) (fun _ _ _ h => h) (by rfl) ?_ (by assumption) ?_; (intro _w; exact exec_neAv _ _ _ rfl p q _ (by rw [decide_eq_true hpq]; rfl) rfl rfl _w); simp only [Act.put, K.put3])
                have HT3 := hid (HTS2.out.2 hpq)
                clear hold hrr3 hrr4 hd1 hd2 hpq
                refine wpD_done (by kernel_rfl) ?_ _
                go_wp2_with fail
                refine ⟨⟨k + 1, by go_num, HLK.out, hid (HF2.out.drew), HT3⟩, ?_⟩
                have := HLK.out
                simp [intOf]; omega
              · (refine wpD_plain 14 (v := (.bool true)) rfl (by kernel_rfl) (by kernel_rfl) (by kernel_rfl) (fun _ _ _ h => h) (by rfl) ?_ (by assumption) ?_; (intro _w; exact exec_neAv _ _ _ rfl p q _ (by rw [decide_eq_false hpq]; rfl) rfl rfl _w); simp only [Act.put, K.put3])
                have hRf : R = false := by rw [← HR.out]; exact decide_eq_false (HNA.out (HNA2.out hpq))
                subst hRf
                clear hold hrr3 hrr4 hd1 hd2 hpq
                refine wpD_done (by kernel_rfl) ?_ _
                go_wp2_with fail
                go_ret
                exact ⟨rfl, HFd.out.trans' HF2.out.drew⟩
            · obtain rfl : k = xl := by omega
              have hxe : x = y := by
                have h := HT2.out
                rw [← HXN.out, List.take_length, HXN.out, ← HYN.out, List.take_length] at h
                exact h
              have hd1 : wr.cell? ⟨g, o + i, none⟩ = some (.slice xa k xc) := HF2.out.cell HCW.out id
              have HT3 := hid (HTS.out.2 hxe)
              clear hxe
              go_wp2_with fail
              refine ⟨⟨i + 1, by go_num, HLT.out, hid (HFd.out.trans' HF2.out), HT3⟩, ?_⟩
              have := HLT.out
              simp [intOf]; omega
        · (refine wpD_plain 10 (v := (.bool true)) rfl (by kernel_rfl) (by kernel_rfl) (by kernel_rfl) (fun _ _ _ h => h) (by rfl) ?_ (by assumption) ?_; (intro _w; exact exec_neI _ _ _ _ rfl .i64 (xl : Int) (yl : Int) rfl rfl _ (by simp; omega) _w); simp only [Act.put, K.put3])
          have hRf : R = false := by rw [← HR.out]; exact decide_eq_false (HNA.out (fun e => hxy (by rw [← HXN.out, ← HYN.out, e])))
          subst hRf
          clear hold
          refine wpD_done (by kernel_rfl) ?_ _
          go_wp2_with fail
          go_ret
          exact ⟨rfl, HF.out.drew⟩
      · obtain rfl : i = n := by omega
        have hRt : R = true := by
          rw [← HR.out]
          have h := HT.out
          rw [← HNN.out, List.take_length, HNN.out, ← HMM.out, List.take_length] at h
          exact decide_eq_true h
        subst hRt
        go_wp2_with fail
        go_ret
        exact ⟨rfl, HF.out⟩
  · have hRf : R = false := by rw [← hR]; exact decide_eq_false (fun e => hnm (by rw [← hn, ← hm, e]))
    subst hRf
    have h1 : ¬ (n : Int) = m := by omega
    clear h h2 hn hm hR
    go_enter Tryz.func7, Tryz.ntmps7
    go_wp2
    go_ret
    exact ⟨rfl, Fr.refl _ _⟩
end Go.Proofs.YthjmkfpdbbfcpaaGreatDoor.DN
