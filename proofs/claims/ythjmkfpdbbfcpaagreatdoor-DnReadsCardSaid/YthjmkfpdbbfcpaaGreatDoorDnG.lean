/-
  Types with values, compared as a whole.
-/
import Derived.Test.YthjmkfpdbbfcpaaGreatDoorDnM
import Derived.Laws.StructEq
set_option linter.unusedVariables false
set_option linter.unusedSimpArgs false
namespace Go.Proofs.YthjmkfpdbbfcpaaGreatDoor.DN
set_option maxRecDepth 100000
open Go.RowKit K Go.Proofs.YthjmkfpdbbfcpaaGreatDoor.BE

def avV (p : Av) : Value := .agg #[.string (sb p.1), .string (sb p.2)]
theorem eqIn_av (p q : Av) (w : World) : (Op.equalIn 10000 35 (avV p) (avV q)).run Tryz.prog w = .ok (decide (p = q)) w := by
  unfold avV
  rw [show (10000 : Nat) = 9999 + 1 from rfl, run_equalIn_agg w 9999 35 _ _ (by kernel_rfl) (by kernel_rfl)]
  have hf : Tryz.prog.fieldsOf 35 = match Tryz.prog.underlying 35 with | some (.struct fs) => fs | _ => #[] := rfl
  rw [hf, Tryz.underlying35]
  have h1 := neq_sb p.1 q.1
  have h2 := neq_sb p.2 q.2
  have e1 := run_equalIn_string (P := Tryz.prog) w 9998 9 (sb p.1) (sb q.1) Tryz.underlying9
  have e2 := run_equalIn_string (P := Tryz.prog) w 9998 9 (sb p.2) (sb q.2) Tryz.underlying9
  rw [h1] at e1
  rw [h2] at e2
  have hp : decide (p = q) = (decide (p.1 = q.1) && decide (p.2 = q.2)) := by
    rw [Bool.eq_iff_iff]
    simp [Prod.ext_iff]
  have c1 : Tryz.prog.cellsOf 9 = 1 := by kernel_rfl
  simp [Op.eqFields, part]
  rw [show (9999 : Nat) = 9998 + 1 from rfl, e1]
  simp only [Result.andThen_ok]
  rw [hp]
  cases decide (p.1 = q.1)
  · rfl
  · rw [if_neg (by decide), e2]
    simp only [Result.andThen_ok]
    cases decide (p.2 = q.2) <;> rfl
theorem exec_eqAv {op : Oper} {a : Act} (x y : Operand) (t2 : TypeId) (ho : op.op = .binOp .eql 35 x y t2) (p q : Av) (r : Bool) (hr : decide (p = q) = r) (hx : a.eval x = avV p) (hy : a.eval y = avV q) (w : World) : (execOp a.eval op).run Tryz.prog w = .ok (.value (.bool r)) w := by
  have h : (binOp .eql 35 (avV p) (avV q)).run Tryz.prog w = .ok (.bool (decide (p = q))) w := by
    have := eqIn_av p q w
    unfold avV at this ⊢
    rw [run_eql_struct, this]
    rfl
  have hg : (eqGuard .eql 35 x y (avV p) (avV q)).run Tryz.prog w = .ok () w := by kernel_rfl
  unfold execOp
  simp only [ho, hx, hy, Sem.run_bind, hg, h, Result.andThen_ok, hr, Sem.run_pure]
theorem exec_neAv {op : Oper} {a : Act} (x y : Operand) (t2 : TypeId) (ho : op.op = .binOp .neq 35 x y t2) (p q : Av) (r : Bool) (hr : (!decide (p = q)) = r) (hx : a.eval x = avV p) (hy : a.eval y = avV q) (w : World) : (execOp a.eval op).run Tryz.prog w = .ok (.value (.bool r)) w := by
  have h : (binOp .neq 35 (avV p) (avV q)).run Tryz.prog w = .ok (.bool (!decide (p = q))) w := by
    have := eqIn_av p q w
    unfold avV at this ⊢
    rw [run_neq_struct, this]
    rfl
  have hg : (eqGuard .neq 35 x y (avV p) (avV q)).run Tryz.prog w = .ok () w := by kernel_rfl
  unfold execOp
  simp only [ho, hx, hy, Sem.run_bind, hg, h, Result.andThen_ok, hr, Sem.run_pure]
theorem take_snoc {α : Type} {r s : List α} {i : Nat} {x y : α} (hx : r[i]? = some x) (hy : s[i]? = some y) (h : r.take i = s.take i) : r.take (i + 1) = s.take (i + 1) ↔ x = y := by
  rw [List.take_add_one, List.take_add_one, hx, hy, h]
  simp
theorem neq_at {α : Type} {r s : List α} {i : Nat} {x y : α} (hx : r[i]? = some x) (hy : s[i]? = some y) (h : x ≠ y) : r ≠ s := by
  intro e
  subst e
  rw [hx] at hy
  exact h (Option.some.inj hy)
set_option maxHeartbeats 8000000 in
theorem equal_any (E E2 : Nat → Prop) (v v2 : Value) (r s : Rd) (w : World) (h : RdIn E w v r) (h2 : RdIn E2 w v2 s) : Calls Tryz.prog 47 #[v, v2] w fun e w' => e = .returned (.bool (decide (r = s))) ∧ Fr No w w' := by
  obtain ⟨a, cp, rfl, -, hl0⟩ := h.form
  obtain ⟨a2, cp2, rfl, -, hl2⟩ := h2.form
  have HX := hid h; have HY := hid h2
  obtain ⟨n, hn⟩ : ∃ n, r.length = n := ⟨_, rfl⟩
  obtain ⟨m, hm⟩ : ∃ m, s.length = m := ⟨_, rfl⟩
  obtain ⟨R, hR⟩ : ∃ R, decide (r = s) = R := ⟨_, rfl⟩
  rw [hR]
  rw [hn] at HX hl0 ⊢
  rw [hm] at HY hl2 ⊢
  have HNN := hid hn; have HMM := hid hm
  by_cases hnm : n = m
  · subst hnm
    have HR := hid hR
    have hni : (n : Int) ≤ 140737488351232 := by omega
    clear h h2 hn hm hR
    go_enter Tryz.func47, Tryz.ntmps47
    go_wp2_with fail
    go_loopw [13] (fun iv wr => ∃ (i : Nat), iv = .int .i64 i ∧ i ≤ n ∧ Hid (Fr No w wr) ∧ Hid (r.take i = s.take i)) (fun iv _ => n - (intOf iv).toNat)
    case atStart => exact ⟨0, rfl, Nat.zero_le _, hid (Fr.refl _ _), hid rfl⟩
    case round =>
      obtain ⟨i, rfl, hi, HF, HT⟩ := hrel
      by_cases hlt : i < n
      · obtain ⟨x, hx⟩ : ∃ x, r[i]? = some x := ⟨_, List.getElem?_eq_getElem (by rw [HNN.out]; exact hlt)⟩
        obtain ⟨y, hy⟩ : ∃ y, s[i]? = some y := ⟨_, List.getElem?_eq_getElem (by rw [HMM.out]; exact hlt)⟩
        have hlti : (i : Int) < n := by omega
        have hi0 : (0 : Int) ≤ i := by omega
        obtain ⟨g, o, cq, c, e1, -, hgw, hrr, hc, hxa⟩ := (RdIn.no HX.out HF.out).get hx
        rw [HNN.out] at e1
        simp only [Value.slice.injEq, true_and] at e1
        obtain ⟨rfl, rfl⟩ := e1
        obtain ⟨rfl, -, -⟩ := hxa
        obtain ⟨g2, o2, cq2, c2, e2, -, hgw2, hrr2, hc2, hya⟩ := (RdIn.no HY.out HF.out).get hy
        rw [HMM.out] at e2
        simp only [Value.slice.injEq, true_and] at e2
        obtain ⟨rfl, rfl⟩ := e2
        obtain ⟨rfl, -, -⟩ := hya
        have HTS := hid (take_snoc hx hy HT.out)
        have HNA := hid (fun hne : x ≠ y => neq_at hx hy hne)
        have HLT := hid hlt
        clear hc hgw hc2 hgw2 hx hy hlt hi
        go_wp2_with fail
        have hold : Facts.hold [(3, fun w' => w'.rangeAt g (o + i * 2) [.string (sb x.1), .string (sb x.2)]), (7, fun w' => w'.rangeAt g2 (o2 + i * 2) [.string (sb y.1), .string (sb y.2)])] wr.drew := Facts.cons_hold hrr (Facts.cons_hold hrr2 (Facts.nil_hold _))
        refine wpD_region hold (by kernel_rfl) 9 rfl ?_
        (refine wpD_plain 0 (v := ?_) rfl (by kernel_rfl) (by kernel_rfl) (by kernel_rfl) (fun _ _ _ h => h) (by rfl) ?_ (by assumption) ?_; rotate_left; (intro _w; go_simp; try with_reducible rfl); simp only [Act.put, K.put3])
        (refine wpD_plain 1 (v := ?_) rfl (by kernel_rfl) (by kernel_rfl) (by kernel_rfl) (fun _ _ _ h => h) (by rfl) ?_ (by assumption) ?_; rotate_left; (intro _w; go_simp; try with_reducible rfl); simp only [Act.put, K.put3])
        (refine wpD_plain 2 (v := (.pointer (some ⟨g, o + i * 2, none⟩))) rfl (by kernel_rfl) (by kernel_rfl) (by kernel_rfl) (fun _ _ _ h => h) (by rfl) ?_ (by assumption) ?_; (intro _w; go_simp; skip); simp only [Act.put, K.put3])
        (refine wpD_take 3 _ rfl (by kernel_rfl) (by kernel_rfl) (by kernel_rfl) (fun _ _ _ h => h) List.mem_cons_self (by rfl) (exec_load _ _ rfl g (o + i * 2) rfl _ _ rfl rfl infoAv) (by assumption) ?_; simp only [Act.put, K.put3])
        (refine wpD_plain 4 (v := ?_) rfl (by kernel_rfl) (by kernel_rfl) (by kernel_rfl) (fun _ _ _ h => h) (by rfl) ?_ (by assumption) ?_; rotate_left; (intro _w; go_simp; try with_reducible rfl); simp only [Act.put, K.put3])
        (refine wpD_plain 5 (v := ?_) rfl (by kernel_rfl) (by kernel_rfl) (by kernel_rfl) (fun _ _ _ h => h) (by rfl) ?_ (by assumption) ?_; rotate_left; (intro _w; go_simp; try with_reducible rfl); simp only [Act.put, K.put3])
        (refine wpD_plain 6 (v := (.pointer (some ⟨g2, o2 + i * 2, none⟩))) rfl (by kernel_rfl) (by kernel_rfl) (by kernel_rfl) (fun _ _ _ h => h) (by rfl) ?_ (by assumption) ?_; (intro _w; go_simp; skip); simp only [Act.put, K.put3])
        (refine wpD_take 7 _ rfl (by kernel_rfl) (by kernel_rfl) (by kernel_rfl) (fun _ _ _ h => h) (List.mem_cons_of_mem _ List.mem_cons_self) (by rfl) (exec_load _ _ rfl g2 (o2 + i * 2) rfl _ _ rfl rfl infoAv) (by assumption) ?_; simp only [Act.put, K.put3])
        by_cases hxy : x = y
        · (refine wpD_plain 8 (v := (.bool false)) rfl (by kernel_rfl) (by kernel_rfl) (by kernel_rfl) (fun _ _ _ h => h) (by rfl) ?_ (by assumption) ?_; (intro _w; exact exec_neAv _ _ _ rfl x y _ (by rw [decide_eq_true hxy]; rfl) rfl rfl _w); simp only [Act.put, K.put3])
          have HT2 := hid (HTS.out.2 hxy)
          clear hold hrr hrr2 hxy
          refine wpD_done (by kernel_rfl) ?_ _
          go_wp2_with fail
          refine ⟨⟨i + 1, by go_num, HLT.out, hid (HF.out.drew), HT2⟩, ?_⟩
          have := HLT.out
          simp [intOf]; omega
        · (refine wpD_plain 8 (v := (.bool true)) rfl (by kernel_rfl) (by kernel_rfl) (by kernel_rfl) (fun _ _ _ h => h) (by rfl) ?_ (by assumption) ?_; (intro _w; exact exec_neAv _ _ _ rfl x y _ (by rw [decide_eq_false hxy]; rfl) rfl rfl _w); simp only [Act.put, K.put3])
          have hRf : R = false := by rw [← HR.out]; exact decide_eq_false (HNA.out hxy)
          subst hRf
          clear hold hrr hrr2 hxy
          refine wpD_done (by kernel_rfl) ?_ _
          go_wp2_with fail
          go_ret
          exact ⟨rfl, HF.out.drew⟩
      · obtain rfl : i = n := by omega
        have hRt : R = true := by
          rw [← HR.out]
          have h := HT.out
          rw [← HNN.out, List.take_length, HNN.out, ← HMM.out, List.take_length] at h
          exact decide_eq_true h
        subst hRt
        go_wp2_with fail
        go_ret
        exact ⟨rfl, HF.out⟩
  · have hRf : R = false := by rw [← hR]; exact decide_eq_false (fun e => hnm (by rw [← hn, ← hm, e]))
    subst hRf
    have h1 : ¬ (n : Int) = m := by omega
    clear h h2 hn hm hR
    go_enter Tryz.func47, Tryz.ntmps47
    go_wp2
    go_ret
    exact ⟨rfl, Fr.refl _ _⟩
set_option maxHeartbeats 8000000 in
theorem equalFunc_any (E E2 : Nat → Prop) (v v2 : Value) (r s : Nm) (w : World) (h : NmIn E w v r) (h2 : NmIn E2 w v2 s) : Calls Tryz.prog 46 #[v, v2, .func (.func 47) #[] #[]] w fun e w' => e = .returned (.bool (decide (r = s))) ∧ Fr No w w' := by
  obtain ⟨a, cp, rfl, -, hl0⟩ := h.form
  obtain ⟨a2, cp2, rfl, -, hl2⟩ := h2.form
  have HX := hid h; have HY := hid h2
  obtain ⟨n, hn⟩ : ∃ n, r.length = n := ⟨_, rfl⟩
  obtain ⟨m, hm⟩ : ∃ m, s.length = m := ⟨_, rfl⟩
  obtain ⟨R, hR⟩ : ∃ R, decide (r = s) = R := ⟨_, rfl⟩
  rw [hR]
  rw [hn] at HX hl0 ⊢
  rw [hm] at HY hl2 ⊢
  have HNN := hid hn; have HMM := hid hm
  by_cases hnm : n = m
  · subst hnm
    have HR := hid hR
    have hni : (n : Int) ≤ 140737488351232 := by omega
    clear h h2 hn hm hR
    go_enter Tryz.func46, Tryz.ntmps46
    go_wp2_with fail
    go_loopw [17] (fun iv wr => ∃ (i : Nat), iv = .int .i64 i ∧ i ≤ n ∧ Hid (Fr No w wr) ∧ Hid (r.take i = s.take i)) (fun iv _ => n - (intOf iv).toNat)
    case atStart => exact ⟨0, rfl, Nat.zero_le _, hid (Fr.refl _ _), hid rfl⟩
    case round =>
      obtain ⟨i, rfl, hi, HF, HT⟩ := hrel
      by_cases hlt : i < n
      · obtain ⟨x, hx⟩ : ∃ x, r[i]? = some x := ⟨_, List.getElem?_eq_getElem (by rw [HNN.out]; exact hlt)⟩
        obtain ⟨y, hy⟩ : ∃ y, s[i]? = some y := ⟨_, List.getElem?_eq_getElem (by rw [HMM.out]; exact hlt)⟩
        have hlti : (i : Int) < n := by omega
        have hi0 : (0 : Int) ≤ i := by omega
        obtain ⟨g, o, cq, c, e1, -, hgw, hrr, hc, hxa⟩ := (NmIn.no HX.out HF.out).get hx
        rw [HNN.out] at e1
        simp only [Value.slice.injEq, true_and] at e1
        obtain ⟨rfl, rfl⟩ := e1
        obtain ⟨vx, rfl, hvx⟩ := hxa
        have hcell : wr.cell? ⟨g, o + i, none⟩ = some vx := by have := hrr 0 vx rfl; simpa using this
        obtain ⟨g2, o2, cq2, c2, e2, -, hgw2, hrr2, hc2, hya⟩ := (NmIn.no HY.out HF.out).get hy
        rw [HMM.out] at e2
        simp only [Value.slice.injEq, true_and] at e2
        obtain ⟨rfl, rfl⟩ := e2
        obtain ⟨vy, rfl, hvy⟩ := hya
        have hcell2 : wr.cell? ⟨g2, o2 + i, none⟩ = some vy := by have := hrr2 0 vy rfl; simpa using this
        have HEQ := hid (equal_any E E2 vx vy x y wr hvx hvy)
        obtain ⟨xa, xc, rfl, -, -⟩ := Sl.form hvx
        obtain ⟨ya, yc, rfl, -, -⟩ := Sl.form hvy
        have HTS := hid (take_snoc hx hy HT.out)
        have HNA := hid (fun hne : x ≠ y => neq_at hx hy hne)
        have HLT := hid hlt
        clear hc hgw hc2 hgw2 hx hy hlt hi hrr hrr2 hvx hvy
        go_wp2_with fail
        refine HEQ.out.mono ?_
        rintro e w3 ⟨rfl, f3⟩
        have HF3 := hid (HF.out.trans' f3)
        clear f3
        by_cases hxy : x = y
        · rw [decide_eq_true hxy]
          have HT2 := hid (HTS.out.2 hxy)
          clear hxy
          go_wp2_with fail
          refine ⟨⟨i + 1, by go_num, HLT.out, HF3, HT2⟩, ?_⟩
          have := HLT.out
          simp [intOf]; omega
        · have hRf : R = false := by rw [← HR.out]; exact decide_eq_false (HNA.out hxy)
          subst hRf
          rw [decide_eq_false hxy]
          clear hxy
          go_wp2_with fail
          go_ret
          exact ⟨rfl, HF3.out⟩
      · obtain rfl : i = n := by omega
        have hRt : R = true := by
          rw [← HR.out]
          have h := HT.out
          rw [← HNN.out, List.take_length, HNN.out, ← HMM.out, List.take_length] at h
          exact decide_eq_true h
        subst hRt
        go_wp2_with fail
        go_ret
        exact ⟨rfl, HF.out⟩
  · have hRf : R = false := by rw [← hR]; exact decide_eq_false (fun e => hnm (by rw [← hn, ← hm, e]))
    subst hRf
    have h1 : ¬ (n : Int) = m := by omega
    clear h h2 hn hm hR
    go_enter Tryz.func46, Tryz.ntmps46
    go_wp2
    go_ret
    exact ⟨rfl, Fr.refl _ _⟩
theorem same_any (E E2 : Nat → Prop) (v v2 : Value) (r s : Nm) (w : World) (h : NmIn E w v r) (h2 : NmIn E2 w v2 s) (hb : NmB 1048576 r) (hb2 : NmB 1048576 s) (hs : Short r) (hs2 : Short s) :
    Calls Tryz.prog 33 #[v, v2] w fun e w' => e = .returned (.bool (decide (norm r = norm s))) ∧ Fr No w w' := by
  have H1 := hid (norm_any E v r w h hb hs)
  have H2 := hid (fun w' (hf : Fr No w w') => norm_any E2 v2 s w' (h2.no hf) hb2 hs2)
  obtain ⟨a, cp, rfl, -, -⟩ := h.form
  obtain ⟨a2, cp2, rfl, -, -⟩ := h2.form
  clear h h2 hb hb2 hs hs2
  go_enter Tryz.func33, Tryz.ntmps33
  go_wp2_with fail
  refine H1.out.mono ?_
  rintro e w1 ⟨u1, rfl, hu1, f1⟩
  have HU1 := hid hu1; have HF1 := hid f1
  obtain ⟨b1, d1, rfl, -, -⟩ := hu1.form
  clear hu1 f1
  go_wp2_with fail
  refine (H2.out w1 HF1.out).mono ?_
  rintro e w2 ⟨u2, rfl, hu2, f2⟩
  have HU2 := hid hu2; have HF2 := hid (HF1.out.trans' f2)
  have HU12 := hid (HU1.out.no f2)
  obtain ⟨b2, d2, rfl, -, -⟩ := hu2.form
  clear hu2 f2
  go_wp2_with fail
  refine (equalFunc_any _ _ _ _ _ _ w2 HU12.out HU2.out).mono ?_
  rintro e w3 ⟨rfl, f3⟩
  have HF3 := hid (HF2.out.trans' f3)
  clear f3
  go_wp2_with fail
  go_ret
  exact ⟨rfl, HF3.out⟩
theorem under_any (E E2 : Nat → Prop) (v v2 : Value) (r s : Nm) (w : World) (h : NmIn E w v r) (h2 : NmIn E2 w v2 s) (hb : NmB 1048576 r) (hb2 : NmB 1048576 s) (hs : Short r) (hs2 : Short s) :
    Calls Tryz.prog 13 #[v, v2] w fun e w' => e = .returned (.bool (under r s)) ∧ Fr No w w' := by
  obtain ⟨a, cp, rfl, hc, hl0⟩ := h.form
  obtain ⟨a2, cp2, rfl, -, hl2⟩ := h2.form
  obtain ⟨n, hn⟩ : ∃ n, r.length = n := ⟨_, rfl⟩
  obtain ⟨m, hm⟩ : ∃ m, s.length = m := ⟨_, rfl⟩
  have hu : under r s = (decide (m ≤ n) && decide (norm (r.drop (n - m)) = norm s)) := by unfold under; rw [hn, hm]
  rw [hu]
  rw [hn] at h hl0 hc ⊢
  rw [hm] at h2 hl2 ⊢
  have hni : (n : Int) ≤ 140737488351232 := by omega
  have hmi : (m : Int) ≤ 140737488351232 := by omega
  have hci : (n : Int) ≤ cp := by omega
  by_cases hmn : m ≤ n
  · rw [decide_eq_true hmn, Bool.true_and]
    have hbd : NmB 1048576 (r.drop (n - m)) := ⟨by have := hb.1; rw [List.length_drop]; omega, fun q hq => hb.2 q (List.mem_of_mem_drop hq)⟩
    have hsd : Short (r.drop (n - m)) := fun q hq => hs q (List.mem_of_mem_drop hq)
    have h0 : (0 : Int) ≤ (n : Int) - m := by omega
    have h01 : (n : Int) - m ≤ n := by omega
    by_cases hr0 : r = []
    · subst hr0
      obtain rfl : 0 = n := hn
      obtain rfl : m = 0 := by omega
      have HS := hid (fun b => same_any E E2 (.slice b 0 cp) _ [] s w (nm_nil _ _ _ _) h2 hb hb2 hs hs2)
      clear h h2 hb hb2 hs hs2 hm hu hbd hsd
      go_enter Tryz.func13, Tryz.ntmps13
      go_wp2_with fail
      refine (HS.out _).mono ?_
      rintro e w3 ⟨rfl, f3⟩
      have HF3 := hid f3
      clear f3
      go_wp2_with fail
      go_ret
      exact ⟨rfl, HF3.out⟩
    · obtain ⟨g, o, rfl⟩ : ∃ g o, a = some ⟨g, o, none⟩ := by
        obtain ⟨a', c', e1, -, -, h4⟩ := h
        simp only [Value.slice.injEq] at e1
        obtain ⟨rfl, -, -⟩ := e1
        obtain ⟨g, o, L, e, -⟩ := h4.resolve_left hr0
        exact ⟨g, o, e⟩
      have hd := Sl.drop h (n - m) (by omega)
      rw [Nat.mul_one] at hd
      obtain ⟨k, hk⟩ : ∃ k, n - m = k := ⟨_, rfl⟩
      rw [hk] at hd hbd hsd ⊢
      have hki : (n : Int) - m = (k : Int) := by omega
      have hkn : (k : Int) ≤ n := by omega
      have hk0 : (0 : Int) ≤ k := by omega
      have HS := hid (same_any E E2 _ _ (r.drop k) s w hd h2 hbd hb2 hsd hs2)
      have hkc : (k : Int) ≤ cp := by omega
      have hkN : k ≤ n := by omega
      have hkC : k ≤ cp := by omega
      have hdk : cp = k → r.drop k = [] := fun e => List.drop_of_length_le (by omega)
      have HS0 : Hid (cp = k → Calls Tryz.prog 33 #[.slice (some ⟨g, o, none⟩) 0 0, .slice a2 m cp2] w fun e w' => e = .returned (.bool (decide (norm (r.drop k) = norm s))) ∧ Fr No w w') := hid (fun e => by
        have h1 := same_any E E2 (.slice (some ⟨g, o, none⟩) 0 0) _ (r.drop k) s w (by rw [hdk e]; exact nm_nil _ _ _ _) h2 hbd hb2 hsd hs2
        exact h1)
      clear h h2 hb hb2 hs hs2 hn hm hu hbd hsd hd hk hr0 hmn h0 h01 hdk
      by_cases hck : cp = k
      · subst hck
        have HS1 := hid (HS0.out rfl)
        clear HS0 HS hkc hkC
        go_enter Tryz.func13, Tryz.ntmps13
        go_wp2_with fail
        refine HS1.out.mono ?_
        rintro e w3 ⟨rfl, f3⟩
        have HF3 := hid f3
        clear f3
        go_wp2_with fail
        go_ret
        exact ⟨rfl, HF3.out⟩
      · clear HS0
        go_enter Tryz.func13, Tryz.ntmps13
        go_wp2_with fail
        refine HS.out.mono ?_
        rintro e w3 ⟨rfl, f3⟩
        have HF3 := hid f3
        clear f3
        go_wp2_with fail
        go_ret
        exact ⟨rfl, HF3.out⟩
  · rw [decide_eq_false hmn, Bool.false_and]
    have h1 : ¬ (0 : Int) ≤ (n : Int) - m := by omega
    clear h h2 hb hb2 hs hs2 hn hm hu hmn
    go_enter Tryz.func13, Tryz.ntmps13
    go_wp2
    go_ret
    exact ⟨rfl, Fr.refl _ _⟩
end Go.Proofs.YthjmkfpdbbfcpaaGreatDoor.DN
