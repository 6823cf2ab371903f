/-
  Part 11 of the proof: DnOne, DzA, DnM0, DnSw, DnRo.
-/
import Derived.Test.YtnjemnmhkhkpeaaDoorDo08
import Derived.Test.YtnjemnmhkhkpeaaDoorDo10
import Derived.Test.YtnjemnmhkhkpeaaDoorDo07
import Derived.Test.YtnjemnmhkhkpeaaDoorDo04
set_option linter.unusedSimpArgs false
set_option linter.unusedVariables false
namespace Go.Proofs.YtnjemnmhkhkpeaaDoor.DN
set_option maxRecDepth 100000
open Go.RowKit K Go.Proofs.YtnjemnmhkhkpeaaDoor.BE
theorem exec_neI {op : Oper} {a : Act} (x y : Operand) (t u : TypeId) (ho : op.op = .binOp .neq t x y u) (k : IntKind) (m n : Int) (hx : a.eval x = .int k m) (hy : a.eval y = .int k n) (b : Bool) (hb : (m != n) = b) (w : World) :
    (execOp a.eval op).run Tryd.prog w = .ok (.value (.bool b)) w := by
  subst hb
  unfold execOp
  simp only [ho, hx, hy]
  simp [go_sem, eqGuard, Result.andThen]
set_option maxHeartbeats 16000000 in
theorem one_any (E E2 : Nat → Prop) (v v2 : Value) (r s : Nm) (w : World) (h : NmIn E w v r) (h2 : NmIn E2 w v2 s) : Calls Tryd.prog 10 #[v, v2] w fun e w' => e = .returned (.bool (decide (r = s))) ∧ Fr No w w' := by
  obtain ⟨a, cp, rfl, -, hl0⟩ := h.form
  obtain ⟨a2, cp2, rfl, -, hl2⟩ := h2.form
  have HX := hid h; have HY := hid h2
  obtain ⟨n, hn⟩ : ∃ n, r.length = n := ⟨_, rfl⟩
  obtain ⟨m, hm⟩ : ∃ m, s.length = m := ⟨_, rfl⟩
  obtain ⟨R, hR⟩ : ∃ R, decide (r = s) = R := ⟨_, rfl⟩
  rw [hR]
  rw [hn] at HX hl0 ⊢
  rw [hm] at HY hl2 ⊢
  have HNN := hid hn; have HMM := hid hm
  by_cases hnm : n = m
  · subst hnm
    have HR := hid hR
    have hni : (n : Int) ≤ 140737488351232 := by omega
    clear h h2 hn hm hR
    go_enter Tryd.func10, Tryd.ntmps10
    go_wp2_with fail
    go_loopw [5] (fun iv wr => ∃ (i : Nat), iv = .int .i64 i ∧ i ≤ n ∧ Hid (Fr No w wr) ∧ Hid (r.take i = s.take i)) (fun iv _ => n - (intOf iv).toNat)
    case atStart => exact ⟨0, rfl, Nat.zero_le _, hid (Fr.refl _ _), hid rfl⟩
    case round =>
      obtain ⟨i, rfl, hi, HF, HT⟩ := hrel
      by_cases hlt : i < n
      · obtain ⟨x, hx⟩ : ∃ x, r[i]? = some x := ⟨_, List.getElem?_eq_getElem (by rw [HNN.out]; exact hlt)⟩
        obtain ⟨y, hy⟩ : ∃ y, s[i]? = some y := ⟨_, List.getElem?_eq_getElem (by rw [HMM.out]; exact hlt)⟩
        have hlti : (i : Int) < n := by omega
        have hi0 : (0 : Int) ≤ i := by omega
        obtain ⟨g, o, cq, c, e1, -, hgw, hrr, hc, hxa⟩ := (NmIn.no HX.out HF.out).get hx
        rw [HNN.out] at e1
        simp only [Value.slice.injEq, true_and] at e1
        obtain ⟨rfl, rfl⟩ := e1
        obtain ⟨vx, rfl, hvx⟩ := hxa
        have hcell : wr.cell? ⟨g, o + i, none⟩ = some vx := by have := hrr 0 vx rfl; simpa using this
        obtain ⟨g2, o2, cq2, c2, e2, -, hgw2, hrr2, hc2, hya⟩ := (NmIn.no HY.out HF.out).get hy
        rw [HMM.out] at e2
        simp only [Value.slice.injEq, true_and] at e2
        obtain ⟨rfl, rfl⟩ := e2
        obtain ⟨vy, rfl, hvy⟩ := hya
        have hcell2 : wr.cell? ⟨g2, o2 + i, none⟩ = some vy := by have := hrr2 0 vy rfl; simpa using this
        have HVX := hid hvx; have HVY := hid hvy
        obtain ⟨xa, xc, rfl, -, hxl⟩ := Sl.form hvx
        obtain ⟨ya, yc, rfl, -, hyl⟩ := Sl.form hvy
        have HTS := hid (take_snoc hx hy HT.out)
        have HNA := hid (fun hne : x ≠ y => neq_at hx hy hne)
        have HLT := hid hlt
        have HCE := hid hcell; have HCE2 := hid hcell2
        obtain ⟨xl, hxn⟩ : ∃ xl, x.length = xl := ⟨_, rfl⟩
        obtain ⟨yl, hyn⟩ : ∃ yl, y.length = yl := ⟨_, rfl⟩
        rw [hxn] at HVX hcell HCE hxl
        rw [hyn] at HVY hcell2 HCE2 hyl
        have HXN := hid hxn; have HYN := hid hyn
        have hxi : (xl : Int) ≤ 140737488351232 := by omega
        clear hc hgw hc2 hgw2 hx hy hlt hi hrr hrr2 hvx hvy
        go_wp2_with fail
        have hold : Facts.hold [(3, fun w' => w'.cell? ⟨g, o + i, none⟩ = some (.slice xa xl xc)), (8, fun w' => w'.cell? ⟨g2, o2 + i, none⟩ = some (.slice ya yl yc))] wr.drew := Facts.cons_hold hcell (Facts.cons_hold hcell2 (Facts.nil_hold _))
        refine wpD_region hold (by kernel_rfl) 11 rfl ?_
        (refine K.pl 0 (v := ?_) rfl ?_ ?_; rotate_left; (intro _w; go_simp; try with_reducible rfl); simp only [Act.put, K.put3])
        (refine K.pl 1 (v := ?_) rfl ?_ ?_; rotate_left; (intro _w; go_simp; try with_reducible rfl); simp only [Act.put, K.put3])
        (refine K.pl 2 (v := (.pointer (some ⟨g, o + i, none⟩))) rfl ?_ ?_; (intro _w; go_simp; skip); simp only [Act.put, K.put3])
        (refine K.tk 3 _ rfl K.m0 (v := ?_) ?_ ?_; rotate_left; (intro _w _hw; go_simp; try with_reducible rfl); simp only [Act.put, K.put3])
        (refine K.pl 4 (v := ?_) rfl ?_ ?_; rotate_left; (intro _w; go_simp; try with_reducible rfl); simp only [Act.put, K.put3])
        (refine K.pl 5 (v := ?_) rfl ?_ ?_; rotate_left; (intro _w; go_simp; try with_reducible rfl); simp only [Act.put, K.put3])
        (refine K.pl 6 (v := ?_) rfl ?_ ?_; rotate_left; (intro _w; go_simp; try with_reducible rfl); simp only [Act.put, K.put3])
        (refine K.pl 7 (v := (.pointer (some ⟨g2, o2 + i, none⟩))) rfl ?_ ?_; (intro _w; go_simp; skip); simp only [Act.put, K.put3])
        (refine K.tk 8 _ rfl K.m1 (v := ?_) ?_ ?_; rotate_left; (intro _w _hw; go_simp; try with_reducible rfl); simp only [Act.put, K.put3])
        (refine K.pl 9 (v := ?_) rfl ?_ ?_; rotate_left; (intro _w; go_simp; try with_reducible rfl); simp only [Act.put, K.put3])
        by_cases hxy : xl = yl
        · (refine K.pl 10 (v := (.bool false)) rfl ?_ ?_; (intro _w; exact exec_neI _ _ _ _ rfl .i64 (xl : Int) (yl : Int) rfl rfl _ (by rw [hxy]; simp) _w); simp only [Act.put, K.put3])
          subst hxy
          have HFd : Hid (Fr No w wr.drew) := hid HF.out.drew
          clear hold hxn hyn
          refine wpD_done (by kernel_rfl) ?_ _
          obtain ⟨W, hW⟩ : ∃ W, wr.drew = W := ⟨_, rfl⟩
          have hcw : W.cell? ⟨g, o + i, none⟩ = some (.slice xa xl xc) := by rw [← hW]; exact HCE.out
          have hcw2 : W.cell? ⟨g2, o2 + i, none⟩ = some (.slice ya xl yc) := by rw [← hW]; exact HCE2.out
          rw [hW] at HFd ⊢
          have HVXW : Hid (RdIn E W (.slice xa xl xc) x) := hid (by rw [← hW]; exact HVX.out)
          have HVYW : Hid (RdIn E2 W (.slice ya xl yc) y) := hid (by rw [← hW]; exact HVY.out)
          have HCW := hid hcw; have HCW2 := hid hcw2
          clear hcell hcell2 hW HCE HCE2 HVX HVY
          go_wp2_with fail
          go_loopw [6] (fun kv wr2 => ∃ (k : Nat), kv = .int .i64 k ∧ k ≤ xl ∧ Hid (Fr No W wr2) ∧ Hid (x.take k = y.take k)) (fun kv _ => xl - (intOf kv).toNat)
          case atStart => exact ⟨0, rfl, Nat.zero_le _, hid (Fr.refl _ _), hid rfl⟩
          case round =>
            obtain ⟨k, rfl, hk, HF2, HT2⟩ := hrel
            by_cases hlk : k < xl
            · obtain ⟨p, hp⟩ : ∃ p, x[k]? = some p := ⟨_, List.getElem?_eq_getElem (by rw [HXN.out]; exact hlk)⟩
              obtain ⟨q, hq⟩ : ∃ q, y[k]? = some q := ⟨_, List.getElem?_eq_getElem (by rw [HYN.out]; exact hlk)⟩
              have hlki : (k : Int) < xl := by omega
              have hk0 : (0 : Int) ≤ k := by omega
              have hd1 : wr.cell? ⟨g, o + i, none⟩ = some (.slice xa xl xc) := HF2.out.cell HCW.out id
              have hd2 : wr.cell? ⟨g2, o2 + i, none⟩ = some (.slice ya xl yc) := HF2.out.cell HCW2.out id
              obtain ⟨g3, o3, cq3, c3, e3, -, hgw3, hrr3, hc3, hxa⟩ := (RdIn.no HVXW.out HF2.out).get hp
              rw [HXN.out] at e3
              simp only [Value.slice.injEq, true_and] at e3
              obtain ⟨rfl, rfl⟩ := e3
              obtain ⟨rfl, -, -⟩ := hxa
              obtain ⟨g4, o4, cq4, c4, e4, -, hgw4, hrr4, hc4, hya⟩ := (RdIn.no HVYW.out HF2.out).get hq
              rw [HYN.out] at e4
              simp only [Value.slice.injEq, true_and] at e4
              obtain ⟨rfl, rfl⟩ := e4
              obtain ⟨rfl, -, -⟩ := hya
              have HTS2 := hid (take_snoc hp hq HT2.out)
              have HNA2 := hid (fun hne : p ≠ q => neq_at hp hq hne)
              have HLK := hid hlk
              clear hc3 hgw3 hc4 hgw4 hp hq hlk hk
              go_wp2_with fail
              have hold : Facts.hold [(3, fun w' => w'.cell? ⟨g, o + i, none⟩ = some (.slice (some ⟨g3, o3, none⟩) xl xc)), (6, fun w' => w'.rangeAt g3 (o3 + k * 2) [.string (sb p.1), .string (sb p.2)]), (10, fun w' => w'.cell? ⟨g2, o2 + i, none⟩ = some (.slice (some ⟨g4, o4, none⟩) xl yc)), (13, fun w' => w'.rangeAt g4 (o4 + k * 2) [.string (sb q.1), .string (sb q.2)])] wr.drew := Facts.cons_hold hd1 (Facts.cons_hold hrr3 (Facts.cons_hold hd2 (Facts.cons_hold hrr4 (Facts.nil_hold _))))
              refine wpD_region hold (by kernel_rfl) 15 rfl ?_
              (refine K.pl 0 (v := ?_) rfl ?_ ?_; rotate_left; (intro _w; go_simp; try with_reducible rfl); simp only [Act.put, K.put3])
              (refine K.pl 1 (v := ?_) rfl ?_ ?_; rotate_left; (intro _w; go_simp; try with_reducible rfl); simp only [Act.put, K.put3])
              (refine K.pl 2 (v := (.pointer (some ⟨g, o + i, none⟩))) rfl ?_ ?_; (intro _w; go_simp; skip); simp only [Act.put, K.put3])
              (refine K.tk 3 _ rfl K.m0 (v := ?_) ?_ ?_; rotate_left; (intro _w _hw; go_simp; try with_reducible rfl); simp only [Act.put, K.put3])
              (refine K.pl 4 (v := ?_) rfl ?_ ?_; rotate_left; (intro _w; go_simp; try with_reducible rfl); simp only [Act.put, K.put3])
              (refine K.pl 5 (v := (.pointer (some ⟨g3, o3 + k * 2, none⟩))) rfl ?_ ?_; (intro _w; go_simp; skip); simp only [Act.put, K.put3])
              (refine K.tk 6 _ rfl K.m1 (exec_load _ _ rfl g3 (o3 + k * 2) rfl _ _ rfl rfl infoAv) ?_; simp only [Act.put, K.put3])
              (refine K.pl 7 (v := ?_) rfl ?_ ?_; rotate_left; (intro _w; go_simp; try with_reducible rfl); simp only [Act.put, K.put3])
              (refine K.pl 8 (v := ?_) rfl ?_ ?_; rotate_left; (intro _w; go_simp; try with_reducible rfl); simp only [Act.put, K.put3])
              (refine K.pl 9 (v := (.pointer (some ⟨g2, o2 + i, none⟩))) rfl ?_ ?_; (intro _w; go_simp; skip); simp only [Act.put, K.put3])
              (refine K.tk 10 _ rfl K.m2 (v := ?_) ?_ ?_; rotate_left; (intro _w _hw; go_simp; try with_reducible rfl); simp only [Act.put, K.put3])
              (refine K.pl 11 (v := ?_) rfl ?_ ?_; rotate_left; (intro _w; go_simp; try with_reducible rfl); simp only [Act.put, K.put3])
              (refine K.pl 12 (v := (.pointer (some ⟨g4, o4 + k * 2, none⟩))) rfl ?_ ?_; (intro _w; go_simp; skip); simp only [Act.put, K.put3])
              (refine K.tk 13 _ rfl K.m3 (exec_load _ _ rfl g4 (o4 + k * 2) rfl _ _ rfl rfl infoAv) ?_; simp only [Act.put, K.put3])
              by_cases hpq : p = q
              · (refine K.pl 14 (v := (.bool false)) rfl ?_ ?_; (intro _w; exact exec_neAv _ _ _ rfl p q _ (by rw [decide_eq_true hpq]; rfl) rfl rfl _w); simp only [Act.put, K.put3])
                have HT3 := hid (HTS2.out.2 hpq)
                clear hold hrr3 hrr4 hd1 hd2 hpq
                refine wpD_done (by kernel_rfl) ?_ _
                go_wp2_with fail
                refine ⟨⟨k + 1, by go_num, HLK.out, hid (HF2.out.drew), HT3⟩, ?_⟩
                have := HLK.out
                simp [intOf]; omega
              · (refine K.pl 14 (v := (.bool true)) rfl ?_ ?_; (intro _w; exact exec_neAv _ _ _ rfl p q _ (by rw [decide_eq_false hpq]; rfl) rfl rfl _w); simp only [Act.put, K.put3])
                have hRf : R = false := by rw [← HR.out]; exact decide_eq_false (HNA.out (HNA2.out hpq))
                subst hRf
                clear hold hrr3 hrr4 hd1 hd2 hpq
                refine wpD_done (by kernel_rfl) ?_ _
                go_wp2_with fail
                go_ret
                exact ⟨rfl, HFd.out.trans' HF2.out.drew⟩
            · obtain rfl : k = xl := by omega
              have hxe : x = y := by
                have h := HT2.out
                rw [← HXN.out, List.take_length, HXN.out, ← HYN.out, List.take_length] at h
                exact h
              have hd1 : wr.cell? ⟨g, o + i, none⟩ = some (.slice xa k xc) := HF2.out.cell HCW.out id
              have HT3 := hid (HTS.out.2 hxe)
              clear hxe
              go_wp2_with fail
              refine ⟨⟨i + 1, by go_num, HLT.out, hid (HFd.out.trans' HF2.out), HT3⟩, ?_⟩
              have := HLT.out
              simp [intOf]; omega
        · (refine K.pl 10 (v := (.bool true)) rfl ?_ ?_; (intro _w; exact exec_neI _ _ _ _ rfl .i64 (xl : Int) (yl : Int) rfl rfl _ (by simp; omega) _w); simp only [Act.put, K.put3])
          have hRf : R = false := by rw [← HR.out]; exact decide_eq_false (HNA.out (fun e => hxy (by rw [← HXN.out, ← HYN.out, e])))
          subst hRf
          clear hold
          refine wpD_done (by kernel_rfl) ?_ _
          go_wp2_with fail
          go_ret
          exact ⟨rfl, HF.out.drew⟩
      · obtain rfl : i = n := by omega
        have hRt : R = true := by
          rw [← HR.out]
          have h := HT.out
          rw [← HNN.out, List.take_length, HNN.out, ← HMM.out, List.take_length] at h
          exact decide_eq_true h
        subst hRt
        go_wp2_with fail
        go_ret
        exact ⟨rfl, HF.out⟩
  · have hRf : R = false := by rw [← hR]; exact decide_eq_false (fun e => hnm (by rw [← hn, ← hm, e]))
    subst hRf
    have h1 : ¬ (n : Int) = m := by omega
    clear h h2 hn hm hR
    go_enter Tryd.func10, Tryd.ntmps10
    go_wp2
    go_ret
    exact ⟨rfl, Fr.refl _ _⟩
theorem p1 : parse [99, 110, 61, 65, 108, 92, 44, 66, 111, 44, 100, 99, 61, 120] = ([[([99, 110], [65, 108, 44, 66, 111])], [([100, 99], [120])]], 0) := by decide +kernel
theorem p2 : parse [97, 61, 49, 43, 65, 61, 50] = ([], 120) := by decide +kernel
theorem p3 : parse [97, 61, 49, 32] = ([], 120) := by decide +kernel
theorem p4 : parse [97, 61, 92, 50, 48, 92, 52, 97] = ([[([97], [32, 74])]], 0) := by decide +kernel
theorem p5 : parse [99, 110, 61, 65, 44, 100, 99, 61, 88] = ([[([99, 110], [65])], [([100, 99], [88])]], 0) := by decide +kernel
theorem p6 : parse [68, 67, 61, 120] = ([[([68, 67], [120])]], 0) := by decide +kernel
theorem q1 : printT [[([97], [32, 74])]] = [97, 61, 92, 32, 74] := by decide +kernel
theorem q2 : fold [32, 65, 108, 32, 32, 66, 32] = [97, 108, 32, 98] := by decide +kernel
theorem q3 : key [[([99, 110], [65])], [([100, 99], [88])]] = [100, 99, 61, 120, 0, 99, 110, 61, 97, 0] := by decide +kernel
theorem q4 : under [[([99, 110], [65])], [([100, 99], [88])]] [[([68, 67], [120])]] = true := by decide +kernel
theorem q5 : under [[([68, 67], [120])]] [[([99, 110], [65])], [([100, 99], [88])]] = false := by decide +kernel
/-- A step of one, where it lies. -/
theorem rd1 {E : Nat → Prop} {w : World} {v : Value} {p : Av} (h : RdIn E w v [p]) : ∃ g o c, v = .slice (some ⟨g, o, none⟩) 1 c ∧ 1 ≤ c ∧ w.rangeAt g o [.string (sb p.1), .string (sb p.2)] := by
  obtain ⟨g, o, cq, c, e1, -, -, hrr, hc, hxa⟩ := h.get (j := 0) rfl
  obtain ⟨rfl, -, -⟩ := hxa
  obtain ⟨a, cap, e2, h2, -⟩ := h.form
  rw [e1] at e2
  simp only [Value.slice.injEq] at e2
  exact ⟨g, o, cq, e1, by rw [e2.2.2]; exact h2, by simpa using hrr⟩
/-- A name of two steps, each of one, where it lies. -/
theorem nm2 {E : Nat → Prop} {w : World} {v : Value} {p q : Av} (h : NmIn E w v [[p], [q]]) : ∃ g o c g1 o1 c1 g2 o2 c2, v = .slice (some ⟨g, o, none⟩) 2 c ∧ 2 ≤ c ∧ 1 ≤ c1 ∧ 1 ≤ c2 ∧ ∀ w', Fr No w w' →
    w'.cell? ⟨g, o, none⟩ = some (.slice (some ⟨g1, o1, none⟩) 1 c1) ∧ w'.cell? ⟨g, o + 1, none⟩ = some (.slice (some ⟨g2, o2, none⟩) 1 c2) ∧ w'.rangeAt g1 o1 [.string (sb p.1), .string (sb p.2)] ∧ w'.rangeAt g2 o2 [.string (sb q.1), .string (sb q.2)] := by
  obtain ⟨g, o, cq, c, e1, -, -, hrr, hc, v1, rfl, h1⟩ := h.get (j := 0) rfl
  obtain ⟨g', o', cq', c', e1', -, -, hrr', hc', v2, rfl, h2⟩ := h.get (j := 1) rfl
  obtain ⟨a, cap, e2, hcap, -⟩ := h.form
  rw [e1] at e1' e2
  simp only [Value.slice.injEq, true_and, Option.some.injEq, Addr.mk.injEq, and_true] at e1' e2
  obtain ⟨⟨rfl, rfl⟩, rfl⟩ := e1'
  obtain ⟨g1, o1, c1, rfl, k1, r1⟩ := rd1 h1
  obtain ⟨g2, o2, c2, rfl, k2, r2⟩ := rd1 h2
  have d1 := hrr 0 _ rfl
  have d2 := hrr' 0 _ rfl
  simp only [Nat.zero_mul, Nat.add_zero, Nat.one_mul] at d1 d2
  exact ⟨g, o, cq, g1, o1, c1, g2, o2, c2, e1, by rw [e2.2]; exact hcap, k1, k2, fun w' hf => ⟨hf.cell d1 id, hf.cell d2 id, hf.range r1 id, hf.range r2 id⟩⟩
theorem exec_eqT {op : Oper} {a : Act} (x y : Operand) (u : TypeId) (ho : op.op = .binOp .eql 9 x y u) (p q : B) (r : Bool) (hr : decide (p = q) = r) (hx : a.eval x = .string (sb p)) (hy : a.eval y = .string (sb q)) (w : World) :
    (execOp a.eval op).run Tryd.prog w = .ok (.value (.bool r)) w := by
  subst hr
  exact exec_eqS x y u ho p q hx hy w
set_option maxHeartbeats 16000000 in
theorem awake_any (w : World) (hG : Gl w) : Calls Tryd.prog 5 #[] w fun e w' => e = .returned (.bool true) ∧ Fr No w w' := by
  have HG := hid hG
  clear hG
  go_enter Tryd.func5, Tryd.ntmps5
  go_wp2_with fail
  have H1 := parse_any [99, 110, 61, 65, 108, 92, 44, 66, 111, 44, 100, 99, 61, 120] w HG.out
  rw [p1] at H1
  refine H1.mono ?_
  rintro e w1 ⟨v, rfl, hv, f1⟩
  obtain ⟨g, o, c, g1, o1, c1, g2, o2, c2, rfl, hc, hc1, hc2, hR⟩ := nm2 hv
  obtain ⟨d1, d2, -, -⟩ := hR w1 (Fr.refl _ _)
  have HF1 := hid f1; have HR := hid hR
  have HG := hid (HG.out.fr f1 id)
  clear H1 hv f1 hR
  go_wp2_with fail
  have H2 := parse_any [97, 61, 49, 43, 65, 61, 50] w1 HG.out
  rw [p2] at H2
  refine H2.mono ?_
  rintro e w2 ⟨v2, rfl, -, f2⟩
  have HF2 := hid f2
  clear H2 f2 d1 d2
  go_wp2_with fail
  have H3 := parse_any [97, 61, 49, 32] w2 (HG.out.fr HF2.out id)
  rw [p3] at H3
  refine H3.mono ?_
  rintro e w3 ⟨v3, rfl, -, f3⟩
  have HF3 := hid (HF2.out.trans' f3)
  clear H3 f3
  go_wp2_with fail
  have H4 := parse_any [97, 61, 92, 50, 48, 92, 52, 97] w3 (HG.out.fr HF3.out id)
  rw [p4] at H4
  refine H4.mono ?_
  rintro e w4 ⟨v4, rfl, hv4, f4⟩
  have HF4 := hid (HF3.out.trans' f4)
  clear H4 f4
  go_wp2_with fail
  have H5 := print_any _ v4 _ w4 hv4 (by unfold NmB RdB AvB; decide) (by decide) (by decide)
  rw [q1] at H5
  refine H5.mono ?_
  rintro e w5 ⟨rfl, f5⟩
  have HF5 := hid (HF4.out.trans' f5)
  clear H5 f5 hv4
  go_wp2_with fail
  have H6 := fold_any [32, 65, 108, 32, 32, 66, 32] (by decide) w5
  rw [q2] at H6
  refine H6.mono ?_
  rintro e w6 ⟨rfl, f6⟩
  have HF6 := hid (HF5.out.trans' f6)
  clear H6 f6
  go_wp2_with fail
  have H7 := parse_any [99, 110, 61, 65, 44, 100, 99, 61, 88] w6 (HG.out.fr HF6.out id)
  rw [p5] at H7
  refine H7.mono ?_
  rintro e w7 ⟨v7, rfl, hv7, f7⟩
  have HF7 := hid (HF6.out.trans' f7)
  have HV7 := hid hv7
  clear H7 f7 hv7
  go_wp2_with fail
  have H8 := parse_any [68, 67, 61, 120] w7 (HG.out.fr HF7.out id)
  rw [p6] at H8
  refine H8.mono ?_
  rintro e w8 ⟨v8, rfl, hv8, f8⟩
  have HF8 := hid (HF7.out.trans' f8)
  have HV8 := hid hv8
  have HV78 := hid (HV7.out.no f8)
  clear H8 f8 hv8
  go_wp2_with fail
  have hbx : NmB 1048576 [[(([99, 110] : B), ([65] : B))], [([100, 99], [88])]] := by unfold NmB RdB AvB; decide
  have hby : NmB 1048576 [[(([68, 67] : B), ([120] : B))]] := by unfold NmB RdB AvB; decide
  have hsx : Short [[(([99, 110] : B), ([65] : B))], [([100, 99], [88])]] := by unfold Short; decide
  have hsy : Short [[(([68, 67] : B), ([120] : B))]] := by unfold Short; decide
  have H9 := key_any _ v7 _ w8 HV78.out hbx hsx (by decide) (by decide)
  rw [q3] at H9
  refine H9.mono ?_
  rintro e w9 ⟨rfl, f9⟩
  have HF9 := hid (HF8.out.trans' f9)
  have HV79 := hid (HV78.out.no f9)
  have HV89 := hid (HV8.out.no f9)
  clear H9 f9
  go_wp2_with fail
  have H10 := under_any _ _ v7 v8 _ _ w9 HV79.out HV89.out hbx hby hsx hsy
  rw [q4] at H10
  refine H10.mono ?_
  rintro e w10 ⟨rfl, f10⟩
  have HF10 := hid (HF9.out.trans' f10)
  have HV710 := hid (HV79.out.no f10)
  have HV810 := hid (HV89.out.no f10)
  clear H10 f10
  go_wp2_with fail
  have H11 := under_any _ _ v8 v7 _ _ w10 HV810.out HV710.out hby hbx hsy hsx
  rw [q5] at H11
  refine H11.mono ?_
  rintro e w11 ⟨rfl, f11⟩
  have HF11 := hid (HF10.out.trans' f11)
  clear H11 f11 hbx hby hsx hsy
  obtain ⟨d1, d2, r1, r2⟩ := HR.out w11 HF11.out
  have HR1 := hid r1; have HR2 := hid r2
  clear r1 r2
  go_wp2_with (first
    | ((with_reducible refine K.atO (.load 37 _) ?_); refine wpL_valZ (by rfl) _ (exec_load _ _ rfl g1 o1 rfl _ _ rfl rfl infoAv _ HR1.out) ?_)
    | ((with_reducible refine K.atO (.load 37 _) ?_); refine wpL_valZ (by rfl) _ (exec_load _ _ rfl g2 o2 rfl _ _ rfl rfl infoAv _ HR2.out) ?_)
    | ((with_reducible refine K.atO (.binOp .eql 37 _ _ _) ?_); refine wpL_valZ (by rfl) (.bool true) (exec_eqAv _ _ _ rfl ([99, 110], [65, 108, 44, 66, 111]) ([99, 110], [65, 108, 44, 66, 111]) true (by decide) rfl rfl _) ?_)
    | ((with_reducible refine K.atO (.binOp .eql 37 _ _ _) ?_); refine wpL_valZ (by rfl) (.bool true) (exec_eqAv _ _ _ rfl ([100, 99], [120]) ([100, 99], [120]) true (by decide) rfl rfl _) ?_)
    | ((with_reducible refine K.atO (.binOp .eql 9 _ _ _) ?_); refine wpL_valZ (by rfl) (.bool true) (exec_eqT _ _ _ rfl [97, 61, 92, 32, 74] [97, 61, 92, 32, 74] true (by decide) rfl rfl _) ?_)
    | ((with_reducible refine K.atO (.binOp .eql 9 _ _ _) ?_); refine wpL_valZ (by rfl) (.bool true) (exec_eqT _ _ _ rfl [97, 108, 32, 98] [97, 108, 32, 98] true (by decide) rfl rfl _) ?_)
    | ((with_reducible refine K.atO (.binOp .eql 9 _ _ _) ?_); refine wpL_valZ (by rfl) (.bool true) (exec_eqT _ _ _ rfl [100, 99, 61, 120, 0, 99, 110, 61, 97, 0] [100, 99, 61, 120, 0, 99, 110, 61, 97, 0] true (by decide) rfl rfl _) ?_)
    | fail)
  go_ret
  exact ⟨rfl, HF1.out.trans' HF11.out⟩
theorem insertion0_any (a : Option Addr) (cap : Nat) (cmp : Value) (w : World) : Calls Tryd.prog 52 #[.slice a 0 cap, .int .i64 0, .int .i64 0, cmp] w fun e w' => (∃ v, e = .returned v) ∧ w' = w := by
  go_enter Tryd.func52, Tryd.ntmps52
  go_wp2_with fail
  go_loopw [8] (fun iv wr => iv = .int .i64 1 ∧ wr = w) (fun _ _ => 0)
  case atStart => exact ⟨rfl, rfl⟩
  case round =>
    obtain ⟨rfl, rfl⟩ := hrel
    go_wp2_with fail
    go_end0
    exact ⟨⟨_, rfl⟩, rfl⟩
theorem stable0_any (a : Option Addr) (cap : Nat) (cmp : Value) (w : World) : Calls Tryd.prog 41 #[.slice a 0 cap, .int .i64 0, cmp] w fun e w' => (∃ v, e = .returned v) ∧ w' = w := by
  go_enter Tryd.func41, Tryd.ntmps41
  go_wp2_with fail
  go_loopw [7, 8] (fun b c wr => b = .int .i64 0 ∧ c = .int .i64 20 ∧ wr = w) (fun _ _ _ => 0)
  case atStart => exact ⟨rfl, rfl, rfl⟩
  case round =>
    obtain ⟨rfl, rfl, rfl⟩ := hrel
    go_wp2_with fail
    refine (insertion0_any a cap cmp _).mono ?_
    rintro e w1 ⟨⟨v, rfl⟩, rfl⟩
    go_wp2_with fail
    go_loopw [6] (fun a wr => a = .int .i64 20 ∧ wr = w1) (fun _ _ => 0)
    case atStart => exact ⟨rfl, rfl⟩
    case round =>
      obtain ⟨rfl, rfl⟩ := hrel
      go_wp2_with fail
      go_end0
      exact ⟨⟨_, rfl⟩, rfl⟩
theorem sort0_any (a : Option Addr) (cap : Nat) (cmp : Value) (w : World) : Calls Tryd.prog 30 #[.slice a 0 cap, cmp] w fun e w' => (∃ v, e = .returned v) ∧ w' = w := by
  go_enter Tryd.func30, Tryd.ntmps30
  go_wp2_with fail
  refine (stable0_any a cap cmp w).mono ?_
  rintro e w1 ⟨⟨v, rfl⟩, rfl⟩
  go_wp2_with fail
  go_end0
  exact ⟨⟨_, rfl⟩, rfl⟩
theorem exec_addI {op : Oper} {a : Act} (x y : Operand) (t u : TypeId) (ho : op.op = .binOp .add t x y u) (m n : Int) (hx : a.eval x = .int .i64 m) (hy : a.eval y = .int .i64 n) (r : Int) (hr : IntKind.i64.wrap (m + n) = r) (w : World) :
    (execOp a.eval op).run Tryd.prog w = .ok (.value (.int .i64 r)) w := by
  subst hr
  unfold execOp
  simp only [ho, hx, hy]
  simp [go_sem, eqGuard, Result.andThen]
theorem put_cells {A C : Rd} {x y : Av} {z : List Value} : spl (avs (A ++ x :: C) ++ z) (A.length * 2) [.string (sb y.1), .string (sb y.2)] = avs (A ++ y :: C) ++ z := by
  have e1 : avs (A ++ x :: C) ++ z = avs A ++ (Value.string (sb x.1) :: .string (sb x.2) :: (avs C ++ z)) := by rw [avs_app, avs_cons]; simp
  have e2 : avs (A ++ y :: C) ++ z = avs A ++ (Value.string (sb y.1) :: .string (sb y.2) :: (avs C ++ z)) := by rw [avs_app, avs_cons]; simp
  rw [e1, e2]
  have hl := avs_len A
  unfold spl
  rw [show A.length * 2 = (avs A).length by omega, List.take_left, List.drop_length_add_append]
  simp
set_option maxHeartbeats 16000000 in
theorem swapRange_any (g N cap : Nat) (A X M Y C : Rd) (cmp : Value) (z : List Value) (w : World) (hN : (A ++ X ++ M ++ Y ++ C).length = N) (hl : X.length = Y.length) (hc : N ≤ cap) (hB : Blk w g 37 (avs (A ++ X ++ M ++ Y ++ C) ++ z)) (hNl : N ≤ 1048576) (a b n : Nat) (ha : A.length = a) (hn : X.length = n) (hb : a + n + M.length = b) :
    Calls Tryd.prog 65 #[.slice (some ⟨g, 0, none⟩) N cap, .int .i64 (a : Int), .int .i64 (b : Int), .int .i64 (n : Int), cmp] w fun e w' => (∃ v, e = .returned v) ∧ Blk w' g 37 (avs (A ++ Y ++ M ++ X ++ C) ++ z) ∧ Fr (fun k => k = g) w w' := by
  have HB0 := hid hB
  have hyn : Y.length = n := by omega
  have HLN := hid (show A.length = a ∧ X.length = n ∧ Y.length = n ∧ a + n + M.length = b ∧ b + n + C.length = N from ⟨ha, hn, hyn, hb, by simp at hN; omega⟩)
  have hni : (N : Int) ≤ 1048576 := by omega
  have hci : (N : Int) ≤ cap := by omega
  have hai : (a : Int) + n ≤ b := by omega
  have hbi : (b : Int) + n ≤ N := by have := HLN.out; omega
  have ha0 : (0 : Int) ≤ a := by omega
  have hb0 : (0 : Int) ≤ b := by omega
  clear hB hN hl hc hNl ha hn hb hyn
  go_enter Tryd.func65, Tryd.ntmps65
  go_wp2_with fail
  go_loopw [10] (fun iv wr => ∃ (k : Nat), iv = .int .i64 k ∧ k ≤ n ∧ Hid (Blk wr g 37 (avs (A ++ (Y.take k ++ X.drop k) ++ M ++ (X.take k ++ Y.drop k) ++ C) ++ z) ∧ Fr (fun j => j = g) w wr)) (fun iv _ => n - (intOf iv).toNat)
  case atStart => exact ⟨0, rfl, Nat.zero_le _, hid ⟨by simpa using HB0.out, Fr.refl _ _⟩⟩
  case round =>
    obtain ⟨k, rfl, hk, HI⟩ := hrel
    by_cases hlt : k < n
    · obtain ⟨x, hx⟩ : ∃ x, X[k]? = some x := ⟨_, List.getElem?_eq_getElem (by have := HLN.out; omega)⟩
      obtain ⟨y, hy⟩ : ∃ y, Y[k]? = some y := ⟨_, List.getElem?_eq_getElem (by have := HLN.out; omega)⟩
      have hlti : (k : Int) < n := by omega
      have hk0 : (0 : Int) ≤ k := by omega
      have hdx : X.drop k = x :: X.drop (k + 1) := by
        obtain ⟨h1, rfl⟩ := List.getElem?_eq_some_iff.1 hx
        exact List.drop_eq_getElem_cons h1
      have hdy : Y.drop k = y :: Y.drop (k + 1) := by
        obtain ⟨h1, rfl⟩ := List.getElem?_eq_some_iff.1 hy
        exact List.drop_eq_getElem_cons h1
      have htx : X.take (k + 1) = X.take k ++ [x] := by rw [List.take_add_one, hx]; rfl
      have hty : Y.take (k + 1) = Y.take k ++ [y] := by rw [List.take_add_one, hy]; rfl
      obtain ⟨P1, hP1⟩ : ∃ P1, A ++ Y.take k = P1 := ⟨_, rfl⟩
      obtain ⟨Q1, hQ1⟩ : ∃ Q1, X.drop (k + 1) ++ M ++ X.take k = Q1 := ⟨_, rfl⟩
      obtain ⟨P3, hP3⟩ : ∃ P3, Y.drop (k + 1) ++ C = P3 := ⟨_, rfl⟩
      have hl1 : P1.length = a + k := by rw [← hP1]; have := HLN.out; simp; omega
      have hl2 : P1.length + 1 + Q1.length = b + k := by rw [hl1, ← hQ1]; have := HLN.out; simp; omega
      have hnow : A ++ (Y.take k ++ X.drop k) ++ M ++ (X.take k ++ Y.drop k) ++ C = P1 ++ x :: (Q1 ++ y :: P3) := by rw [← hP1, ← hQ1, ← hP3, hdx, hdy]; simp
      have hthen : A ++ (Y.take (k + 1) ++ X.drop (k + 1)) ++ M ++ (X.take (k + 1) ++ Y.drop (k + 1)) ++ C = P1 ++ y :: (Q1 ++ x :: P3) := by rw [← hP1, ← hQ1, ← hP3, htx, hty]; simp
      have HTH := hid hthen
      rw [hnow] at HI
      have hr1 : wr.rangeAt g ((a + k) * 2) [.string (sb x.1), .string (sb x.2)] := by have := avs_range HI.out.1; rwa [hl1] at this
      have hr2 : wr.rangeAt g ((b + k) * 2) [.string (sb y.1), .string (sb y.2)] := by
        have h : Blk wr g 37 (avs ((P1 ++ x :: Q1) ++ y :: P3) ++ z) := by have h := HI.out.1; simpa using h
        have := avs_range h
        rwa [show (P1 ++ x :: Q1).length = b + k by simp; omega] at this
      have HP := hid (show P1.length = a + k ∧ P1.length + 1 + Q1.length = b + k from ⟨hl1, hl2⟩)
      have hak : (a : Int) + k = ((a + k : Nat) : Int) := by push_cast; rfl
      have hbk : (b : Int) + k = ((b + k : Nat) : Int) := by push_cast; rfl
      have HLT := hid hlt
      obtain ⟨p, hp⟩ : ∃ p, a + k = p := ⟨_, rfl⟩
      obtain ⟨q, hq⟩ : ∃ q, b + k = q := ⟨_, rfl⟩
      rw [hp] at hr1 hak HP
      rw [hq] at hr2 hbk HP
      have hp0 : (0 : Int) ≤ p := by omega
      have hpN : (p : Int) < N := by omega
      have hq0 : (0 : Int) ≤ q := by omega
      have hqN : (q : Int) < N := by omega
      clear hx hy hdx hdy htx hty hP1 hQ1 hP3 hl1 hl2 hnow hthen hlt hk hp hq
      go_wp2_with fail
      have hold : Facts.hold [(13, fun w' => w'.rangeAt g (q * 2) [.string (sb y.1), .string (sb y.2)]), (19, fun w' => w'.rangeAt g (p * 2) [.string (sb x.1), .string (sb x.2)])] wr.drew := Facts.cons_hold hr2 (Facts.cons_hold hr1 (Facts.nil_hold _))
      refine wpD_region hold (by kernel_rfl) 24 rfl ?_
      (refine K.pl 0 (v := ?_) rfl ?_ ?_; rotate_left; (intro _w; go_simp; try with_reducible rfl); simp only [Act.put, K.put3])
      (refine K.pl 1 (v := ?_) rfl ?_ ?_; rotate_left; (intro _w; go_simp; try with_reducible rfl); simp only [Act.put, K.put3])
      (refine K.pl 2 (v := ?_) rfl ?_ ?_; rotate_left; (intro _w; go_simp; try with_reducible rfl); simp only [Act.put, K.put3])
      (refine K.pl 3 (v := (.int .i64 (p : Int))) rfl ?_ ?_; (intro _w; exact exec_addI _ _ _ _ rfl (a : Int) (k : Int) rfl rfl _ (by rw [IntKind.wrap_i64] <;> omega) _w); simp only [Act.put, K.put3])
      (refine K.pl 4 (v := ?_) rfl ?_ ?_; rotate_left; (intro _w; go_simp; try with_reducible rfl); simp only [Act.put, K.put3])
      (refine K.pl 5 (v := ?_) rfl ?_ ?_; rotate_left; (intro _w; go_simp; try with_reducible rfl); simp only [Act.put, K.put3])
      (refine K.pl 6 (v := ?_) rfl ?_ ?_; rotate_left; (intro _w; go_simp; try with_reducible rfl); simp only [Act.put, K.put3])
      (refine K.pl 7 (v := (.int .i64 (q : Int))) rfl ?_ ?_; (intro _w; exact exec_addI _ _ _ _ rfl (b : Int) (k : Int) rfl rfl _ (by rw [IntKind.wrap_i64] <;> omega) _w); simp only [Act.put, K.put3])
      (refine K.pl 8 (v := ?_) rfl ?_ ?_; rotate_left; (intro _w; go_simp; try with_reducible rfl); simp only [Act.put, K.put3])
      (refine K.pl 9 (v := ?_) rfl ?_ ?_; rotate_left; (intro _w; go_simp; try with_reducible rfl); simp only [Act.put, K.put3])
      (refine K.pl 10 (v := ?_) rfl ?_ ?_; rotate_left; (intro _w; go_simp; try with_reducible rfl); simp only [Act.put, K.put3])
      (refine K.pl 11 (v := (.int .i64 (q : Int))) rfl ?_ ?_; (intro _w; exact exec_addI _ _ _ _ rfl (b : Int) (k : Int) rfl rfl _ (by rw [IntKind.wrap_i64] <;> omega) _w); simp only [Act.put, K.put3])
      (refine K.pl 12 (v := (.pointer (some ⟨g, q * 2, none⟩))) rfl ?_ ?_; (intro _w; go_simp; skip); simp only [Act.put, K.put3])
      (refine K.tk 13 _ rfl K.m0 (exec_load _ _ rfl g (q * 2) rfl _ _ rfl rfl infoAv) ?_; simp only [Act.put, K.put3])
      (refine K.pl 14 (v := ?_) rfl ?_ ?_; rotate_left; (intro _w; go_simp; try with_reducible rfl); simp only [Act.put, K.put3])
      (refine K.pl 15 (v := ?_) rfl ?_ ?_; rotate_left; (intro _w; go_simp; try with_reducible rfl); simp only [Act.put, K.put3])
      (refine K.pl 16 (v := ?_) rfl ?_ ?_; rotate_left; (intro _w; go_simp; try with_reducible rfl); simp only [Act.put, K.put3])
      (refine K.pl 17 (v := (.int .i64 (p : Int))) rfl ?_ ?_; (intro _w; exact exec_addI _ _ _ _ rfl (a : Int) (k : Int) rfl rfl _ (by rw [IntKind.wrap_i64] <;> omega) _w); simp only [Act.put, K.put3])
      (refine K.pl 18 (v := (.pointer (some ⟨g, p * 2, none⟩))) rfl ?_ ?_; (intro _w; go_simp; skip); simp only [Act.put, K.put3])
      (refine K.tk 19 _ rfl K.m1 (exec_load _ _ rfl g (p * 2) rfl _ _ rfl rfl infoAv) ?_; simp only [Act.put, K.put3])
      (refine K.pl 20 (v := (.pointer (some ⟨g, p * 2, none⟩))) rfl ?_ ?_; (intro _w; go_simp; skip); simp only [Act.put, K.put3])
      clear hold
      have HLB2 := hid (show (avs (P1 ++ x :: (Q1 ++ y :: P3)) ++ z).length = (P1.length + 1 + Q1.length + 1 + P3.length) * 2 + z.length by rw [List.length_append, avs_len]; simp; omega)
      refine K.on 21 [] rfl (fun K21 hK21 => ?_)
      refine wp_storeV _ _ _ rfl g (p * 2) (.agg #[.string (sb y.1), .string (sb y.2)]) [.string (sb y.1), .string (sb y.2)] rfl rfl rfl 37 _ (show Blk wr.drew g _ _ from HI.out.1) (by rw [HLB2.out]; have := HP.out; simp; omega) infoAv (by simp [Value.oneCell']) ?_
      intro w5 HB5 HF5 HS5
      refine hK21 _ _ (Facts.nil_hold _) ?_
      clear hK21 K21
      simp only [Act.put, K.put3]
      have hB5 : Blk w5 g 37 (avs ((P1 ++ y :: Q1) ++ y :: P3) ++ z) := by
        have h := HB5.out
        rw [← HP.out.1, put_cells] at h
        simpa using h
      have HC5 := hid hB5
      clear hB5
      have hold : Facts.hold [] w5 := Facts.nil_hold _
      (refine K.pl 22 (v := (.pointer (some ⟨g, q * 2, none⟩))) rfl ?_ ?_; (intro _w; go_simp; skip); simp only [Act.put, K.put3])
      clear hold
      refine K.on 23 [] rfl (fun K23 hK23 => ?_)
      refine wp_storeV _ _ _ rfl g (q * 2) (.agg #[.string (sb x.1), .string (sb x.2)]) [.string (sb x.1), .string (sb x.2)] rfl rfl rfl 37 _ HC5.out (by rw [List.length_append, avs_len]; have := HP.out; simp; omega) infoAv (by simp [Value.oneCell']) ?_
      intro w6 HB6 HF6 HS6
      refine hK23 _ _ (Facts.nil_hold _) ?_
      clear hK23 K23
      simp only [Act.put, K.put3]
      refine wpD_done (by kernel_rfl) ?_ _
      go_wp2_with fail
      refine ⟨⟨k + 1, by go_num, HLT.out, hid ⟨?_, HI.out.2.trans' ((Fr.refl (fun k => k = g) wr).drew.trans' (HF5.out.trans' HF6.out))⟩⟩, ?_⟩
      · have h := HB6.out
        rw [show q = (P1 ++ y :: Q1).length by have := HP.out; simp; omega, put_cells] at h
        rw [HTH.out]
        simpa using h
      · have := HLT.out
        simp [intOf]; omega
    · obtain rfl : k = n := by omega
      have hX : X.take k = X := List.take_of_length_le (by have := HLN.out; omega)
      have hY : Y.take k = Y := List.take_of_length_le (by have := HLN.out; omega)
      have hX2 : X.drop k = [] := List.drop_of_length_le (by have := HLN.out; omega)
      have hY2 : Y.drop k = [] := List.drop_of_length_le (by have := HLN.out; omega)
      rw [hX, hY, hX2, hY2, List.append_nil, List.append_nil] at HI
      clear hX hY hX2 hY2 hlt hk
      go_wp2_with fail
      refine bodyPost_end (results_none rfl _ _ _) rfl ?_
      exact ⟨⟨_, rfl⟩, HI.out.1, HI.out.2⟩
set_option maxHeartbeats 16000000 in
theorem rotate_any (g N cap : Nat) (A X Y C : Rd) (cmp : Value) (z : List Value) (w : World) (hN : (A ++ X ++ Y ++ C).length = N) (hX : 1 ≤ X.length) (hY : 1 ≤ Y.length) (hc : N ≤ cap) (hB : Blk w g 37 (avs (A ++ X ++ Y ++ C) ++ z)) (hNl : N ≤ 1048576) (a m b : Nat) (ha : A.length = a) (hm : a + X.length = m) (hb : m + Y.length = b) :
    Calls Tryd.prog 61 #[.slice (some ⟨g, 0, none⟩) N cap, .int .i64 (a : Int), .int .i64 (m : Int), .int .i64 (b : Int), cmp] w fun e w' => (∃ v, e = .returned v) ∧ Blk w' g 37 (avs (A ++ Y ++ X ++ C) ++ z) ∧ Fr (fun k => k = g) w w' := by
  have HB0 := hid hB
  have HLN := hid (show A.length = a ∧ a + X.length = m ∧ m + Y.length = b ∧ b + C.length = N ∧ 1 ≤ X.length ∧ 1 ≤ Y.length ∧ N ≤ cap ∧ N ≤ 1048576 from ⟨ha, hm, hb, by simp at hN; omega, hX, hY, hc, hNl⟩)
  obtain ⟨R, hR⟩ : ∃ R, A ++ Y ++ X ++ C = R := ⟨_, rfl⟩
  have HR := hid hR
  rw [hR]
  have hma : (m : Int) - a = (X.length : Int) := by omega
  have hbm : (b : Int) - m = (Y.length : Int) := by omega
  have ha0 : (0 : Int) ≤ a := by omega
  have hmi : (m : Int) ≤ 1048576 := by have := HLN.out; omega
  have hbi : (b : Int) ≤ 1048576 := by have := HLN.out; omega
  clear hB hN hX hY hc hNl ha hm hb hR
  go_enter Tryd.func61, Tryd.ntmps61
  go_wp2_with fail
  go_loopw [10, 11] (fun iv jv wr => ∃ (A' X' Y' C' : Rd) (i j : Nat), iv = .int .i64 i ∧ jv = .int .i64 j ∧ Hid (X'.length = i ∧ Y'.length = j ∧ 1 ≤ i ∧ 1 ≤ j ∧ A'.length + i = m ∧ (A' ++ X' ++ Y' ++ C').length = N ∧ A' ++ Y' ++ X' ++ C' = R) ∧ Hid (Blk wr g 37 (avs (A' ++ X' ++ Y' ++ C') ++ z) ∧ Fr (fun j => j = g) w wr)) (fun iv jv _ => (intOf iv).toNat + (intOf jv).toNat)
  case atStart => exact ⟨A, X, Y, C, X.length, Y.length, by first | rfl | (rw [hma]), by first | rfl | (rw [hbm]), hid ⟨rfl, rfl, HLN.out.2.2.2.2.1, HLN.out.2.2.2.2.2.1, by have := HLN.out; omega, by have := HLN.out; simp; omega, HR.out⟩, hid ⟨HB0.out, Fr.refl _ _⟩⟩
  case round =>
    obtain ⟨A', X', Y', C', i, j, rfl, rfl, HJ, HI⟩ := hrel
    have hi1 : (1 : Int) ≤ i := by have := HJ.out.2.2.1; omega
    have hj1 : (1 : Int) ≤ j := by have := HJ.out.2.2.2.1; omega
    have hal : (A'.length : Int) + i = m := by have := HJ.out.2.2.2.2.1; omega
    have hmi0 : (m : Int) - i = (A'.length : Int) := by omega
    have hji : (m : Int) + j ≤ 1048576 := by have := HJ.out.2.2.2.2.2.1; have := HJ.out.1; have := HJ.out.2.1; have := HJ.out.2.2.2.2.1; have := HLN.out.2.2.2.2.2.2.2; simp at *; omega
    rcases Nat.lt_trichotomy i j with hlt | heq | hgt
    · have hne : ((i : Int) != j) = true := by simp; omega
      have hng : ¬ (j : Int) < i := by omega
      obtain ⟨Y1, Y2, hYY, hy2⟩ : ∃ Y1 Y2, Y' = Y1 ++ Y2 ∧ Y2.length = i := ⟨Y'.take (j - i), Y'.drop (j - i), (List.take_append_drop _ _).symm, by rw [List.length_drop, HJ.out.2.1]; omega⟩
      subst hYY
      have hmj : (m : Int) + j - i = ((m + j - i : Nat) : Int) := by omega
      obtain ⟨p, hp⟩ : ∃ p, m + j - i = p := ⟨_, rfl⟩
      rw [hp] at hmj
      have HS := hid (swapRange_any g N cap A' X' Y1 Y2 C' cmp z wr (by have := HJ.out.2.2.2.2.2.1; simpa [Nat.add_assoc] using this) (by rw [HJ.out.1, hy2]) HLN.out.2.2.2.2.2.2.1 (by have h := HI.out.1; simpa using h) HLN.out.2.2.2.2.2.2.2 A'.length p i rfl HJ.out.1 (by have := HJ.out; simp at this; omega))
      have HY2 := hid hy2
      have HLT := hid hlt
      have hij : (j : Int) - i = ((j - i : Nat) : Int) := by omega
      clear hlt hy2 hp
      go_wp2_with fail
      refine HS.out.mono ?_
      rintro e w2 ⟨⟨v, rfl⟩, hb2, f2⟩
      have HB2 := hid hb2; have HF2 := hid f2
      clear hb2 f2
      go_wp2_with fail
      refine ⟨⟨A', Y2, Y1, X' ++ C', i, j - i, rfl, by first | rfl | (rw [hij]), hid ?_, hid ⟨by have h := HB2.out; simpa using h, HI.out.2.trans' HF2.out⟩⟩, ?_⟩
      · have := HJ.out
        have := HY2.out
        have := HLT.out
        refine ⟨by omega, by simp at *; omega, by omega, by omega, by omega, by simp at *; omega, by have h := HJ.out.2.2.2.2.2.2; simpa using h⟩
      · have := HLT.out
        simp [intOf]; omega
    · subst heq
      have hne : ((i : Int) != i) = false := by simp
      have HS := hid (swapRange_any g N cap A' X' [] Y' C' cmp z wr (by have := HJ.out.2.2.2.2.2.1; simpa [Nat.add_assoc] using this) (by rw [HJ.out.1, HJ.out.2.1]) HLN.out.2.2.2.2.2.2.1 (by have h := HI.out.1; simpa using h) HLN.out.2.2.2.2.2.2.2 A'.length m i rfl HJ.out.1 (by have := HJ.out; simp; omega))
      go_wp2_with fail
      refine HS.out.mono ?_
      rintro e w2 ⟨⟨v, rfl⟩, hb2, f2⟩
      have HB2 := hid hb2; have HF2 := hid f2
      clear hb2 f2
      go_wp2_with fail
      refine bodyPost_end (results_none rfl _ _ _) rfl ?_
      refine ⟨⟨_, rfl⟩, ?_, HI.out.2.trans' HF2.out⟩
      have h := HB2.out
      rw [← HJ.out.2.2.2.2.2.2]
      simpa using h
    · have hne : ((i : Int) != j) = true := by simp; omega
      have hng : (j : Int) < i := by omega
      obtain ⟨X1, X2, hXX, hx1⟩ : ∃ X1 X2, X' = X1 ++ X2 ∧ X1.length = j := ⟨X'.take j, X'.drop j, (List.take_append_drop _ _).symm, by rw [List.length_take, HJ.out.1]; omega⟩
      subst hXX
      have HS := hid (swapRange_any g N cap A' X1 X2 Y' C' cmp z wr (by have := HJ.out.2.2.2.2.2.1; simpa [Nat.add_assoc] using this) (by rw [hx1, HJ.out.2.1]) HLN.out.2.2.2.2.2.2.1 (by have h := HI.out.1; simpa using h) HLN.out.2.2.2.2.2.2.2 A'.length m j rfl hx1 (by have := HJ.out; simp at this; omega))
      have HX1 := hid hx1
      have HGT := hid hgt
      have hij : (i : Int) - j = ((i - j : Nat) : Int) := by omega
      clear hgt hx1
      go_wp2_with fail
      refine HS.out.mono ?_
      rintro e w2 ⟨⟨v, rfl⟩, hb2, f2⟩
      have HB2 := hid hb2; have HF2 := hid f2
      clear hb2 f2
      go_wp2_with fail
      refine ⟨⟨A' ++ Y', X2, X1, C', i - j, j, by first | rfl | (rw [hij]), rfl, hid ?_, hid ⟨by have h := HB2.out; simpa using h, HI.out.2.trans' HF2.out⟩⟩, ?_⟩
      · have := HJ.out
        have := HX1.out
        have := HGT.out
        refine ⟨by simp at *; omega, by omega, by omega, by omega, by simp at *; omega, by simp at *; omega, by have h := HJ.out.2.2.2.2.2.2; simpa using h⟩
      · have := HGT.out
        simp [intOf]; omega
end Go.Proofs.YtnjemnmhkhkpeaaDoor.DN
