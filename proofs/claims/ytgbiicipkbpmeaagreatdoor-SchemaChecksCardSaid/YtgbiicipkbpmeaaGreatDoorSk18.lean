/-
  Part 18 of the proof: SdT, SdM, ScQ, FtD, FtO, FtS, FtK, FtL, FtC, FtA, FtB, FtP, FtJ, FtV, FtT, FtPt.
-/
import Derived.Test.YtgbiicipkbpmeaaGreatDoorSk17
import Derived.Test.YtgbiicipkbpmeaaGreatDoorSk16
import Derived.Test.YtgbiicipkbpmeaaGreatDoorSk02
import Derived.Test.YtgbiicipkbpmeaaGreatDoorSk14
import Derived.Lib.Strings
import Derived.Lib.IndexMore
import Derived.Lib.TrimByte
import Derived.Test.YtgbiicipkbpmeaaGreatDoorSk04
import Derived.Test.YtgbiicipkbpmeaaGreatDoorSk13
import Derived.Shelf.Strings.Cut
import Derived.Shelf.Strings.Prefix
import Derived.Shelf.Strings.Trim
set_option linter.unusedSimpArgs false
set_option linter.unusedVariables false
namespace Go.Proofs.YtgbiicipkbpmeaaGreatDoor.SC
set_option maxRecDepth 100000
open Go.RowKit K BE DN
set_option maxHeartbeats 8000000 in
theorem rfind_any {S S2 : Nat → Prop} (vt vc : Value) (s : Sch) (m : B) (w : World) (h : TysIn S w vt s.tys) (hy : ClsIn S2 w vc s.cls) (hz : Sz m) : Calls Tryz.prog 29 #[.agg #[vt, vc], .string (sb m)] w fun e w' => e = .returned (.int .i64 (idxI s.tys fun a => low a.nm == low m)) ∧ Fr No w w' := by
 obtain ⟨va, vcp, e0, -, hle⟩ := h.form
 obtain ⟨n, hn⟩ : ∃ n, s.tys.length = n := ⟨_, rfl⟩
 have HE := hid h; have HN := hid hn; have HM := hid hz
 obtain ⟨a2, n2, c2, e2⟩ : ∃ a n c, vc = .slice a n c := by obtain ⟨a, c, e, -⟩ := hy.form; exact ⟨_, _, _, e⟩
 rw [e0] at HE ⊢
 rw [e2]
 rw [hn] at HE hle ⊢
 obtain ⟨X, hX⟩ : ∃ X, s.tys = X := ⟨_, rfl⟩
 rw [hX] at HE HN ⊢
 obtain ⟨R, hR⟩ : ∃ R, idxI X (fun a => low a.nm == low m) = R := ⟨_, rfl⟩
 have HR := hid hR
 rw [hR]
 have hni : (n : Int) ≤ 140737488351232 := by omega
 clear h hy hn hz hR hX e0 e2
 go_enter Tryz.func29, Tryz.ntmps29
 go_wp2_with (first
  | ((with_reducible refine K.atO (.box 25 _) ?_); refine wpL_box rfl _ _ rfl _ rfl [.slice va n vcp, .slice a2 n2 c2] rfl ?_; intro w1 HB1 HF1 HS1; refine Hid.out ?_)
  | fail)
 obtain ⟨b, hb⟩ : ∃ b, w.heap.size = b := ⟨_, rfl⟩
 rw [hb] at HB1 ⊢
 clear hb HS1
 refine hid ?_
 go_wp2_with fail
 refine (smallZ_any m HM.out w1).mono ?_
 rintro e w2 ⟨rfl, f1⟩
 have HF2 := hid (HF1.out.trans' f1)
 have HB2 := hid (HB1.out.fr f1 id)
 clear f1
 go_wp2_with fail
 go_loopw [6] (fun iv wr => ∃ (i : Nat), iv = .int .i64 i ∧ i ≤ n ∧ Hid ((X.take i).any (fun a => low a.nm == low m) = false ∧ Fr No w wr ∧ Blk wr b 25 [.slice va n vcp, .slice a2 n2 c2])) (fun iv _ => n - (intOf iv).toNat)
 case atStart => exact ⟨0, rfl, Nat.zero_le _, hid ⟨rfl, HF2.out, HB2.out⟩⟩
 case round =>
  obtain ⟨i, rfl, hi, HI⟩ := hrel
  have cb : wr.cell? ⟨b, 0, none⟩ = some (.slice va n vcp) := HI.out.2.2.cell 0
  by_cases hlt : i < n
  ·have hiX : i < X.length := by rw [HN.out]; exact hlt
   obtain ⟨x, hx⟩ : ∃ x, X[i]? = some x := ⟨_, List.getElem?_eq_getElem hiX⟩
   have hlti : (i : Int) < n := by omega
   have hi0 : (0 : Int) ≤ i := by omega
   obtain ⟨g, o, cq, cs, e1, -, -, hr, -, hp⟩ := (TysIn.fr (D := No) HE.out HI.out.2.1 (fun _ _ _ e => e)).get hx
   rw [HN.out] at e1
   simp only [Value.slice.injEq, true_and] at e1
   obtain ⟨rfl, rfl⟩ := e1
   obtain ⟨rfl, hznm⟩ := hp
   have d0 : wr.cell? ⟨g, o + i * 6, none⟩ = some (.string (sb x.nm)) := by have := hr 0 _ rfl; simpa using this
   have HZN := hid hznm
   have HXX := hid hx
   have HLT := hid hlt
   have HNX : Hid ((X.take (i + 1)).any (fun a => low a.nm == low m) = ((low x.nm == low m) || false)) := hid (by
    have hxx : X[i] = x := by rw [List.getElem?_eq_getElem hiX] at hx; exact Option.some.inj hx
    rw [List.take_succ_eq_append_getElem hiX, List.any_append, HI.out.1, hxx]; simp)
   obtain ⟨nm, hnm⟩ : ∃ nm, x.nm = nm := ⟨_, rfl⟩
   have HNM := hid hnm
   rw [hnm] at HZN HNX d0
   clear hr hznm hx hlt hiX hnm
   go_wp2_with fail
   refine (smallZ_any nm HZN.out wr).mono ?_
   rintro e w3 ⟨rfl, f2⟩
   have HF3 := hid (HI.out.2.1.trans' f2); have HB3 := hid (HI.out.2.2.fr f2 id)
   clear f2 d0 cb
   cases hq : (low nm == low m) with
   | true =>
    have HQ := hid hq
    have HQE : Hid (decide (low nm = low m) = true) := hid (by simpa using hq)
    clear hq
    go_wp2_with (first
     | ((with_reducible refine K.atO (.binOp .eql 9 _ _ _) ?_); refine wpL_valZ rfl (.bool true) (by rw [← HQE.out]; exact exec_eqS _ _ _ rfl (low nm) (low m) rfl rfl _) ?_)
     | fail)
    go_ret
    exact ⟨by rw [← HR.out, idx_at HI.out.1 HXX.out (by rw [HNM.out]; exact HQ.out)]; rfl, HF3.out⟩
   | false =>
    have HQ := hid hq
    have HQE : Hid (decide (low nm = low m) = false) := hid (by simpa using hq)
    clear hq
    go_wp2_with (first
     | ((with_reducible refine K.atO (.binOp .eql 9 _ _ _) ?_); refine wpL_valZ rfl (.bool false) (by rw [← HQE.out]; exact exec_eqS _ _ _ rfl (low nm) (low m) rfl rfl _) ?_)
     | fail)
    refine ⟨⟨i + 1, by go_num, HLT.out, hid ⟨by rw [HNX.out, HQ.out]; rfl, HF3.out, HB3.out⟩⟩, ?_⟩
    have := HLT.out
    simp [intOf]; omega
  ·obtain rfl : i = n := by omega
   go_wp2_with fail
   go_ret
   refine ⟨?_, HI.out.2.1⟩
   have h1 := HI.out.1
   rw [List.take_of_length_le (by rw [HN.out]; exact Nat.le_refl _)] at h1
   rw [← HR.out, idx_none h1]
   rfl
set_option maxHeartbeats 8000000 in
theorem rfindC_any {S S2 : Nat → Prop} (vt vc : Value) (s : Sch) (m : B) (w : World) (h : TysIn S w vt s.tys) (hy : ClsIn S2 w vc s.cls) (hz : Sz m) : Calls Tryz.prog 31 #[.agg #[vt, vc], .string (sb m)] w fun e w' => e = .returned (.int .i64 (idxI s.cls fun a => low a.nm == low m)) ∧ Fr No w w' := by
 obtain ⟨va, vcp, e0, -, hle⟩ := hy.form
 obtain ⟨n, hn⟩ : ∃ n, s.cls.length = n := ⟨_, rfl⟩
 have HE := hid hy; have HN := hid hn; have HM := hid hz
 obtain ⟨a2, n2, c2, e2⟩ : ∃ a n c, vt = .slice a n c := by obtain ⟨a, c, e, -⟩ := h.form; exact ⟨_, _, _, e⟩
 rw [e0] at HE ⊢
 rw [e2]
 rw [hn] at HE hle ⊢
 obtain ⟨X, hX⟩ : ∃ X, s.cls = X := ⟨_, rfl⟩
 rw [hX] at HE HN ⊢
 obtain ⟨R, hR⟩ : ∃ R, idxI X (fun a => low a.nm == low m) = R := ⟨_, rfl⟩
 have HR := hid hR
 rw [hR]
 have hni : (n : Int) ≤ 140737488351232 := by omega
 clear h hy hn hz hR hX e0 e2
 go_enter Tryz.func31, Tryz.ntmps31
 go_wp2_with (first
  | ((with_reducible refine K.atO (.box 25 _) ?_); refine wpL_box rfl _ _ rfl _ rfl [.slice a2 n2 c2, .slice va n vcp] rfl ?_; intro w1 HB1 HF1 HS1; refine Hid.out ?_)
  | fail)
 obtain ⟨b, hb⟩ : ∃ b, w.heap.size = b := ⟨_, rfl⟩
 rw [hb] at HB1 ⊢
 clear hb HS1
 refine hid ?_
 go_wp2_with fail
 refine (smallZ_any m HM.out w1).mono ?_
 rintro e w2 ⟨rfl, f1⟩
 have HF2 := hid (HF1.out.trans' f1)
 have HB2 := hid (HB1.out.fr f1 id)
 clear f1
 go_wp2_with fail
 go_loopw [6] (fun iv wr => ∃ (i : Nat), iv = .int .i64 i ∧ i ≤ n ∧ Hid ((X.take i).any (fun a => low a.nm == low m) = false ∧ Fr No w wr ∧ Blk wr b 25 [.slice a2 n2 c2, .slice va n vcp])) (fun iv _ => n - (intOf iv).toNat)
 case atStart => exact ⟨0, rfl, Nat.zero_le _, hid ⟨rfl, HF2.out, HB2.out⟩⟩
 case round =>
  obtain ⟨i, rfl, hi, HI⟩ := hrel
  have cb : wr.cell? ⟨b, 1, none⟩ = some (.slice va n vcp) := HI.out.2.2.cell 1
  by_cases hlt : i < n
  ·have hiX : i < X.length := by rw [HN.out]; exact hlt
   obtain ⟨x, hx⟩ : ∃ x, X[i]? = some x := ⟨_, List.getElem?_eq_getElem hiX⟩
   have hlti : (i : Int) < n := by omega
   have hi0 : (0 : Int) ≤ i := by omega
   obtain ⟨g, o, cq, cs, e1, -, -, hr, -, hp⟩ := (ClsIn.fr (D := No) HE.out HI.out.2.1 (fun _ _ _ e => e)).get hx
   rw [HN.out] at e1
   simp only [Value.slice.injEq, true_and] at e1
   obtain ⟨rfl, rfl⟩ := e1
   obtain ⟨u1, u2, rfl, hznm, -⟩ := hp
   have d0 : wr.cell? ⟨g, o + i * 5, none⟩ = some (.string (sb x.nm)) := by have := hr 0 _ rfl; simpa using this
   have HZN := hid hznm
   have HXX := hid hx
   have HLT := hid hlt
   have HNX : Hid ((X.take (i + 1)).any (fun a => low a.nm == low m) = ((low x.nm == low m) || false)) := hid (by
    have hxx : X[i] = x := by rw [List.getElem?_eq_getElem hiX] at hx; exact Option.some.inj hx
    rw [List.take_succ_eq_append_getElem hiX, List.any_append, HI.out.1, hxx]; simp)
   obtain ⟨nm, hnm⟩ : ∃ nm, x.nm = nm := ⟨_, rfl⟩
   have HNM := hid hnm
   rw [hnm] at HZN HNX d0
   clear hr hznm hx hlt hiX hnm
   go_wp2_with fail
   refine (smallZ_any nm HZN.out wr).mono ?_
   rintro e w3 ⟨rfl, f2⟩
   have HF3 := hid (HI.out.2.1.trans' f2); have HB3 := hid (HI.out.2.2.fr f2 id)
   clear f2 d0 cb
   cases hq : (low nm == low m) with
   | true =>
    have HQ := hid hq
    have HQE : Hid (decide (low nm = low m) = true) := hid (by simpa using hq)
    clear hq
    go_wp2_with (first
     | ((with_reducible refine K.atO (.binOp .eql 9 _ _ _) ?_); refine wpL_valZ rfl (.bool true) (by rw [← HQE.out]; exact exec_eqS _ _ _ rfl (low nm) (low m) rfl rfl _) ?_)
     | fail)
    go_ret
    exact ⟨by rw [← HR.out, idx_at HI.out.1 HXX.out (by rw [HNM.out]; exact HQ.out)]; rfl, HF3.out⟩
   | false =>
    have HQ := hid hq
    have HQE : Hid (decide (low nm = low m) = false) := hid (by simpa using hq)
    clear hq
    go_wp2_with (first
     | ((with_reducible refine K.atO (.binOp .eql 9 _ _ _) ?_); refine wpL_valZ rfl (.bool false) (by rw [← HQE.out]; exact exec_eqS _ _ _ rfl (low nm) (low m) rfl rfl _) ?_)
     | fail)
    refine ⟨⟨i + 1, by go_num, HLT.out, hid ⟨by rw [HNX.out, HQ.out]; rfl, HF3.out, HB3.out⟩⟩, ?_⟩
    have := HLT.out
    simp [intOf]; omega
  ·obtain rfl : i = n := by omega
   go_wp2_with fail
   go_ret
   refine ⟨?_, HI.out.2.1⟩
   have h1 := HI.out.1
   rw [List.take_of_length_le (by rw [HN.out]; exact Nat.le_refl _)] at h1
   rw [← HR.out, idx_none h1]
   rfl
theorem sup_of {s : Sch} (hk : okS s = true) {k : Nat} {c : Cl} (hc : s.cls[k]? = some c) : (c.sup = [] ∧ supAt s k = none) ∨ (c.sup ≠ [] ∧ ∃ j, supAt s k = some j ∧ s.clAt c.sup = some j ∧ j < k) := by
 have hs := (rCl_at _ _ _ k c (okS_parts hk).2 hc).2.2.1
 by_cases he : c.sup = []
 ·refine .inl ⟨he, ?_⟩
  unfold supAt
  rw [hc, Option.bind_some]
  exact fnd_empty hk he
 ·refine .inr ⟨he, ?_⟩
  rw [List.nil_append] at hs
  unfold supOk at hs
  rw [if_neg he] at hs
  split at hs
  ·cases hs
  ·rename_i i hi
   have hki : s.clAt c.sup = some i := by
    unfold Sch.clAt Sch.cn
    have e : s.cls.map (·.nm) = (s.cls.take k).map (·.nm) ++ (s.cls.drop k).map (·.nm) := by rw [← List.map_append, List.take_append_drop]
    unfold fnd at hi ⊢
    rw [e, List.findIdx?_append, hi]
    rfl
   have h2 : supAt s k = some i := by unfold supAt; rw [hc, Option.bind_some]; exact hki
   exact ⟨i, h2, hki, sup_lt hk h2⟩
theorem abv_none {s : Sch} (hk : okS s = true) {i k : Nat} (h : supAt s k = none) : abv s i k = false := by
 unfold abv
 rw [line_eq hk, h]
 rfl
theorem abv_some {s : Sch} (hk : okS s = true) {i k j : Nat} (h : supAt s k = some j) : abv s i k = (decide (j = i) || abv s i j) := by
 obtain ⟨r, hr⟩ := line_self s j
 have e : (line s k).tail = line s j := by rw [line_eq hk, h]; rfl
 have e2 : (line s j).tail = r := by rw [hr]; rfl
 unfold abv
 rw [Bool.eq_iff_iff, Bool.or_eq_true]
 constructor
 ·intro h1
  have h2 := of_decide_eq_true h1
  rw [e, hr] at h2
  rcases List.mem_cons.1 h2 with h3 | h3
  ·exact .inl (decide_eq_true h3.symm)
  ·exact .inr (decide_eq_true (by rw [e2]; exact h3))
 ·intro h1
  refine decide_eq_true ?_
  rw [e, hr]
  rcases h1 with h1 | h1
  ·exact List.mem_cons.2 (.inl (of_decide_eq_true h1).symm)
  ·have h2 := of_decide_eq_true h1
   rw [e2] at h2
   exact List.mem_cons.2 (.inr h2)
theorem clAt_idx (s : Sch) (n : B) : idxI s.cls (fun a => low a.nm == low n) = match s.clAt n with | none => -1 | some i => (i : Int) := by
 unfold Sch.clAt Sch.cn
 rw [fnd_cl]
 unfold idxI
 cases s.cls.findIdx? fun a => low a.nm == low n <;> rfl
theorem clA_at {s : Sch} {k : Nat} (h : k < s.cls.length) : s.cls[k]? = some (clA s k) := by
 unfold clA
 rw [List.getElem?_eq_getElem h]
 rfl
theorem exec_neE {op : Oper} {a : Act} (x : Operand) (u : TypeId) (ho : op.op = .binOp .neq 9 x (.const (.string ⟨#[]⟩)) u) (p : B) (r : Bool) (hr : (!decide (p = [])) = r) (hx : a.eval x = .string (sb p)) (w : World) :
  (execOp a.eval op).run Tryz.prog w = .ok (.value (.bool r)) w := by
 subst hr
 exact exec_neS x _ u ho p [] hx rfl w
theorem infoSc6 : (Tryz.prog.info? 25).map (·.size) = some 2 := by kernel_rfl
set_option maxHeartbeats 16000000 in
theorem above_any {S S2 : Nat → Prop} (vt vc : Value) (s : Sch) (i k : Nat) (w : World) (h : TysIn S w vt s.tys) (hy : ClsIn S2 w vc s.cls) (hk : okS s = true) (hkn : k < s.cls.length) :
  Calls Tryz.prog 27 #[.agg #[vt, vc], .int .i64 (i : Int), .int .i64 (k : Int)] w fun e w' => e = .returned (.bool (abv s i k)) ∧ Fr No w w' := by
 have HT := hid h; have HC := hid hy; have HK := hid hk; have HKN := hid hkn
 obtain ⟨a2, n2, c2, e2⟩ : ∃ a n c, vt = .slice a n c := by obtain ⟨a, c, e, -⟩ := h.form; exact ⟨_, _, _, e⟩
 obtain ⟨va, vcp, e0, -, hle⟩ := hy.form
 obtain ⟨N, hN⟩ : ∃ N, s.cls.length = N := ⟨_, rfl⟩
 have HNN := hid hN
 subst e0 e2
 rw [hN] at HC hle HKN ⊢
 have hNi : (N : Int) ≤ 140737488351232 := by omega
 obtain ⟨R, hR⟩ : ∃ R, abv s i k = R := ⟨_, rfl⟩
 have HR := hid hR
 rw [hR]
 clear h hy hk hkn hN hle hR
 go_enter Tryz.func27, Tryz.ntmps27
 go_wp2_with (first
  | ((with_reducible refine K.atO (.box 25 _) ?_); refine wpL_box rfl _ _ rfl _ rfl [.slice a2 n2 c2, .slice va N vcp] rfl ?_; intro w1 HB1 HF1 HS1; refine Hid.out ?_)
  | fail)
 obtain ⟨b, hb⟩ : ∃ b, w.heap.size = b := ⟨_, rfl⟩
 rw [hb] at HB1 ⊢
 clear hb HS1
 refine hid ?_
 go_wp2_with fail
 go_loopw [2] (fun kv wr => ∃ (k' : Nat), kv = .int .i64 k' ∧ k' < N ∧ Hid (R = abv s i k') ∧ Hid (Fr No w1 wr)) (fun kv _ => (intOf kv).toNat)
 case atStart => exact ⟨k, rfl, HKN.out, hid HR.out.symm, hid (Fr.refl _ _)⟩
 case round =>
  obtain ⟨k', rfl, hlt, HI, HFw⟩ := hrel
  have hlti : (k' : Int) < N := by omega
  have hi0 : (0 : Int) ≤ k' := by omega
  have HLT := hid hlt
  have HFa := hid (HF1.out.trans' HFw.out)
  have hcl := clA_at (s := s) (k := k') (by rw [HNN.out]; exact hlt)
  obtain ⟨g, o, cq, cs, e1, -, -, hr, -, hp⟩ := (ClsIn.fr (D := No) HC.out HFa.out (fun _ _ _ e => e)).get hcl
  rw [HNN.out] at e1
  simp only [Value.slice.injEq, true_and] at e1
  obtain ⟨rfl, rfl⟩ := e1
  obtain ⟨u1, u2, rfl, -, hzs, -⟩ := hp
  have cb : wr.cell? ⟨b, 1, none⟩ = some (.slice (some ⟨g, o, none⟩) N vcp) := (HB1.out.fr HFw.out id).cell 1
  have d2 : wr.cell? ⟨g, o + k' * 5 + 2, none⟩ = some (.string (sb (clA s k').sup)) := hr 2 _ rfl
  have HZ := hid hzs
  have g0 : wr.rangeAt b 0 [.slice a2 n2 c2, .slice (some ⟨g, o, none⟩) N vcp] := (HB1.out.fr HFw.out id).range 0 _ rfl
  rcases sup_of HK.out hcl with ⟨hs1, hs2⟩ | ⟨hs1, j, hs2, hs3, hjk⟩
  ·have HE : Hid (R = false) := hid (by rw [HI.out, abv_none HK.out hs2])
   have HNE := hid (show (!decide ((clA s k').sup = [])) = false by rw [hs1]; rfl)
   clear hr hcl hs1 hs2 hzs hlt g0
   go_wp2_with (first
    | ((with_reducible refine K.atO (.binOp .neq 9 _ _ _) ?_); refine wpL_valZ rfl (.bool false) (exec_neE _ _ rfl (clA s k').sup _ HNE.out rfl _) ?_)
    | fail)
   go_ret
   exact ⟨by rw [HE.out]; first | done | rfl, HFa.out⟩
  ·have HE : Hid (R = (decide (j = i) || abv s i j)) := hid (by rw [HI.out, abv_some HK.out hs2])
   have HNE := hid (show (!decide ((clA s k').sup = [])) = true by rw [decide_eq_false hs1]; rfl)
   have HJ := hid hs3; have HJK := hid hjk
   clear hr hcl hs1 hs2 hs3 hzs hlt hjk
   go_wp2_with (first
    | ((with_reducible refine K.atO (.binOp .neq 9 _ _ _) ?_); refine wpL_valZ rfl (.bool true) (exec_neE _ _ rfl (clA s k').sup _ HNE.out rfl _) ?_)
    | fail)
   have hold : Facts.hold [(0, fun w' => w'.rangeAt b 0 [.slice a2 n2 c2, .slice (some ⟨g, o, none⟩) N vcp]), (2, fun w' => w'.cell? ⟨b, 1, none⟩ = some (.slice (some ⟨g, o, none⟩) N vcp)), (6, fun w' => w'.cell? ⟨g, o + k' * 5 + 2, none⟩ = some (.string (sb (clA s k').sup)))] wr.drew := Facts.cons_hold g0 (Facts.cons_hold cb (Facts.cons_hold d2 (Facts.nil_hold _)))
   refine wpD_region hold (by kernel_rfl) 9 rfl ?_
   (refine K.pl 1 (v := ?_) rfl ?_ ?_; rotate_left; (intro _w; go_simp; try with_reducible rfl); simp only [Act.put, K.put3])
   (refine K.tk 2 _ rfl K.m1 (v := ?_) ?_ ?_; rotate_left; (intro _w _hw; go_simp; try with_reducible rfl); simp only [Act.put, K.put3])
   (refine K.pl 3 (v := ?_) rfl ?_ ?_; rotate_left; (intro _w; go_simp; try with_reducible rfl); simp only [Act.put, K.put3])
   (refine K.pl 4 (v := ?_) rfl ?_ ?_; rotate_left; (intro _w; go_simp; try with_reducible rfl); simp only [Act.put, K.put3])
   (refine K.pl 5 (v := ?_) rfl ?_ ?_; rotate_left; (intro _w; go_simp; try with_reducible rfl); simp only [Act.put, K.put3])
   (refine K.tk 6 _ rfl K.m2 (v := ?_) ?_ ?_; rotate_left; (intro _w _hw; go_simp; try with_reducible rfl); simp only [Act.put, K.put3])
   (refine K.tk 0 _ rfl K.m0 (exec_load _ _ rfl b 0 rfl _ _ rfl rfl infoSc6) ?_; simp only [Act.put, K.put3])
   clear hold
   refine K.on 7 [(2, fun w' => w'.cell? ⟨b, 1, none⟩ = some (.slice (some ⟨g, o, none⟩) N vcp))] rfl (fun K7 hK7 => ?_)
   refine wp_call _ _ _ rfl 31 [] rfl (fun vs w => by kernel_rfl) [.agg #[.slice a2 n2 c2, .slice (some ⟨g, o, none⟩) N vcp], .string (sb (clA s k').sup)] (by rfl) ?_
   have FD := HFa.out.trans' (Fr.refl No wr).drew
   refine (rfindC_any _ _ s (clA s k').sup wr.drew (TysIn.fr (D := No) HT.out FD (fun _ _ _ e => e)) (ClsIn.fr (D := No) HC.out FD (fun _ _ _ e => e)) HZ.out).mono ?_
   rintro e w6 ⟨rfl, f6⟩
   have HF6 : Hid (Fr No w1 w6) := hid ((HFw.out.trans' (Fr.refl No wr).drew).trans' f6)
   have hold : Facts.hold [(2, fun w' => w'.cell? ⟨b, 1, none⟩ = some (.slice (some ⟨g, o, none⟩) N vcp))] w6 := Facts.cons_hold (((Fr.refl No wr).drew.trans' f6).cell cb id) (Facts.nil_hold _)
   refine ⟨_, rfl, hK7 _ _ hold ?_⟩
   rw [clAt_idx, HJ.out]
   clear hK7 K7 f6 g0 cb d2 FD
   simp only [Act.put, K.put3]
   (refine K.pl 8 (v := ?_) rfl ?_ ?_; rotate_left; (intro _w; go_simp; try with_reducible rfl); simp only [Act.put, K.put3])
   clear hold
   refine wpD_done (by kernel_rfl) ?_ _
   by_cases hji : j = i
   ·have HE2 : Hid (R = true) := hid (by rw [HE.out, decide_eq_true hji]; rfl)
    subst hji
    clear HE
    go_wp2_with fail
    go_ret
    exact ⟨by rw [HE2.out]; first | done | rfl, HF1.out.trans' HF6.out⟩
   ·have HE2 : Hid (R = abv s i j) := hid (by rw [HE.out, decide_eq_false hji]; rfl)
    have bj := beq_eq_false_iff_ne.2 (show (j : Int) ≠ i by omega)
    clear hji HE
    go_wp2_with fail
    refine ⟨⟨j, rfl, by have := HLT.out; have := HJK.out; omega, HE2, HF6⟩, ?_⟩
    have := HJK.out
    simp [intOf]; omega
set_option maxHeartbeats 8000000 in
theorem in_any {S : Nat → Prop} (vl : Value) (l : List B) (m : B) (w : World) (hl : LsIn S w vl l) (hz : Sz m) : Calls Tryz.prog 30 #[vl, .string (sb m)] w fun e w' => e = .returned (.bool (inB l m)) ∧ Fr No w w' := by
 obtain ⟨va, vcp, rfl, -, hle⟩ := hl.form
 obtain ⟨n, hn⟩ : ∃ n, l.length = n := ⟨_, rfl⟩
 have HL := hid hl; have HN := hid hn; have HM := hid hz
 rw [hn] at HL hle ⊢
 obtain ⟨R, hR⟩ : ∃ R, inB l m = R := ⟨_, rfl⟩
 have HR := hid hR
 rw [hR]
 have hni : (n : Int) ≤ 140737488351232 := by omega
 clear hl hn hR hz
 go_enter Tryz.func30, Tryz.ntmps30
 go_wp2_with fail
 refine (smallZ_any m HM.out w).mono ?_
 rintro e w2 ⟨rfl, f1⟩
 have HF2 := hid f1
 clear f1
 go_wp2_with fail
 go_loopw [6] (fun iv wr => ∃ (i : Nat), iv = .int .i64 i ∧ i ≤ n ∧ Hid ((l.take i).any (fun a => low a == low m) = false ∧ Fr No w wr)) (fun iv _ => n - (intOf iv).toNat)
 case atStart => exact ⟨0, rfl, Nat.zero_le _, hid ⟨rfl, HF2.out⟩⟩
 case round =>
  obtain ⟨i, rfl, hi, HI⟩ := hrel
  by_cases hlt : i < n
  ·have hiX : i < l.length := by rw [HN.out]; exact hlt
   obtain ⟨x, hx⟩ : ∃ x, l[i]? = some x := ⟨_, List.getElem?_eq_getElem hiX⟩
   have hlti : (i : Int) < n := by omega
   have hi0 : (0 : Int) ≤ i := by omega
   obtain ⟨g, o, cq, e1, d0, hz⟩ := (LsIn.fr (D := No) HL.out HI.out.2 (fun _ _ _ e => e)).at_ hx
   rw [HN.out] at e1
   simp only [Value.slice.injEq, true_and] at e1
   obtain ⟨rfl, rfl⟩ := e1
   have HZ := hid hz; have HLT := hid hlt; have HXM := hid (List.mem_of_getElem? hx)
   have HNX : Hid ((l.take (i + 1)).any (fun a => low a == low m) = (low x == low m)) := hid (by
    have hxx : l[i] = x := by rw [List.getElem?_eq_getElem hiX] at hx; exact Option.some.inj hx
    rw [List.take_succ_eq_append_getElem hiX, List.any_append, HI.out.1, hxx]; simp)
   clear hz hx hlt hiX
   go_wp2_with fail
   refine (smallZ_any x HZ.out wr).mono ?_
   rintro e w3 ⟨rfl, f2⟩
   have HF3 := hid (HI.out.2.trans' f2)
   clear f2 d0
   cases hq : (low x == low m) with
   | true =>
    have HE : Hid (R = true) := hid (by rw [← HR.out]; unfold inB; rw [List.any_eq_true]; exact ⟨x, HXM.out, hq⟩)
    have HQE : Hid (decide (low x = low m) = true) := hid (by simpa using hq)
    clear hq
    go_wp2_with (first
     | ((with_reducible refine K.atO (.binOp .eql 9 _ _ _) ?_); refine wpL_valZ rfl (.bool true) (by rw [← HQE.out]; exact exec_eqS _ _ _ rfl (low x) (low m) rfl rfl _) ?_)
     | fail)
    go_ret
    exact ⟨by rw [HE.out]; first | done | rfl, HF3.out⟩
   | false =>
    have HQ := hid hq
    have HQE : Hid (decide (low x = low m) = false) := hid (by simpa using hq)
    clear hq
    go_wp2_with (first
     | ((with_reducible refine K.atO (.binOp .eql 9 _ _ _) ?_); refine wpL_valZ rfl (.bool false) (by rw [← HQE.out]; exact exec_eqS _ _ _ rfl (low x) (low m) rfl rfl _) ?_)
     | fail)
    refine ⟨⟨i + 1, by go_num, HLT.out, hid ⟨by rw [HNX.out, HQ.out], HF3.out⟩⟩, ?_⟩
    have := HLT.out
    simp [intOf]; omega
  ·obtain rfl : i = n := by omega
   have HE : Hid (R = false) := hid (by
    have h1 := HI.out.1
    rw [List.take_of_length_le (by rw [HN.out]; exact Nat.le_refl _)] at h1
    rw [← HR.out]
    exact h1)
   go_wp2_with fail
   go_ret
   exact ⟨by rw [HE.out]; first | done | rfl, HI.out.2⟩
end Go.Proofs.YtgbiicipkbpmeaaGreatDoor.SC
namespace Go.Proofs.YtgbiicipkbpmeaaGreatDoor.SC
set_option maxRecDepth 100000
open BE DN
end Go.Proofs.YtgbiicipkbpmeaaGreatDoor.SC
namespace Go.Proofs.YtgbiicipkbpmeaaGreatDoor.FT
set_option maxRecDepth 100000
open BE DN SC
inductive Fl where
 | mk (kind : Int) (kids : List Fl) (type value first : B) (any : List B) (last : B)
def Fl.kind : Fl → Int | .mk k _ _ _ _ _ _ => k
def Fl.kids : Fl → List Fl | .mk _ k _ _ _ _ _ => k
def Fl.type : Fl → B | .mk _ _ t _ _ _ _ => t
def Fl.value : Fl → B | .mk _ _ _ v _ _ _ => v
def Fl.first : Fl → B | .mk _ _ _ _ f _ _ => f
def Fl.any : Fl → List B | .mk _ _ _ _ _ a _ => a
def Fl.last : Fl → B | .mk _ _ _ _ _ _ l => l
def cutAll : B → List B → Option B
 | r, [] => some r
 | r, p :: t => if (Lib.cut r p).2.2 then cutAll (Lib.cut r p).2.1 t else none
end Go.Proofs.YtgbiicipkbpmeaaGreatDoor.FT
namespace Go.Proofs.YtgbiicipkbpmeaaGreatDoor.FT
set_option maxRecDepth 100000
open BE DN SC
end Go.Proofs.YtgbiicipkbpmeaaGreatDoor.FT
namespace Go.Proofs.YtgbiicipkbpmeaaGreatDoor.FT
set_option maxRecDepth 100000
open BE DN SC
theorem joinB_cons (x : B) {L : List B} (h : L ≠ []) : joinB [32] (x :: L) = x ++ [32] ++ joinB [32] L := by
 cases L with
 | nil => exact absurd rfl h
 | cons b r => rfl
end Go.Proofs.YtgbiicipkbpmeaaGreatDoor.FT
namespace Go.Proofs.YtgbiicipkbpmeaaGreatDoor.FT
set_option maxRecDepth 100000
open Go.RowKit K BE DN SC
section
variable {P : Program} {ops : Array Oper} {rest : List Oper} {op : Oper} {a : Act} {w : World} {Q : Exit → Act → World → Prop}
end
def flV (f : Fl) (vk va : Value) : List Value := [.int .i64 f.kind, vk, .string (sb f.type), .string (sb f.value), .string (sb f.first), va, .string (sb f.last)]
def I64 (n : Int) : Prop := -9223372036854775808 ≤ n ∧ n ≤ 9223372036854775807
def Sm (s : B) : Prop := s.length ≤ 4294967000
def FlC : Nat → (Nat → Prop) → World → Fl → List Value → Prop
 | 0, _, _, _, _ => False
 | M + 1, S, w, f, cs => ∃ vk va, cs = flV f vk va ∧ I64 f.kind ∧ Sz f.type ∧ Sz f.value ∧ Sm f.first ∧ Sm f.last ∧ (LsIn S w va f.any ∧ (∀ x ∈ f.any, Sm x) ∧ f.any.length ≤ 4294967000) ∧ Sl 7 (FlC M S w) S w vk f.kids
theorem FlC.fr {S D : Nat → Prop} {w w' : World} (hf : Fr D w w') (hd : ∀ i, S i → i < w.heap.size → ¬ D i) : ∀ {M : Nat} {f : Fl} {cs : List Value}, FlC M S w f cs → FlC M S w' f cs
 | 0, _, _, h => h.elim
 | M + 1, f, cs, h => by
  obtain ⟨vk, va, h1, h2, h3, h4, h5, h6, h7, h8⟩ := h
  exact ⟨vk, va, h1, h2, h3, h4, h5, h6, ⟨h7.1.fr hf hd, h7.2⟩, h8.fr hf hd fun x c _ hx => FlC.fr hf hd hx⟩
theorem FlC.no {M : Nat} {S : Nat → Prop} {w w' : World} {f : Fl} {cs : List Value} (h : FlC M S w f cs) (hf : Fr No w w') : FlC M S w' f cs := h.fr hf fun _ _ _ e => e
theorem FlC.mono {S S' : Nat → Prop} {w : World} (hs : ∀ i, S i → i < w.heap.size → S' i) : ∀ {M : Nat} {f : Fl} {cs : List Value}, FlC M S w f cs → FlC M S' w f cs
 | 0, _, _, h => h.elim
 | M + 1, f, cs, h => by
  obtain ⟨vk, va, h1, h2, h3, h4, h5, h6, h7, h8⟩ := h
  exact ⟨vk, va, h1, h2, h3, h4, h5, h6, ⟨h7.1.mono hs, h7.2⟩, Sl.mono h8 hs fun x c _ hx => FlC.mono hs hx⟩
theorem FlC.up {S : Nat → Prop} {w : World} : ∀ {M : Nat} {f : Fl} {cs : List Value}, FlC M S w f cs → FlC (M + 1) S w f cs
 | 0, _, _, h => h.elim
 | M + 1, f, cs, h => by
  obtain ⟨vk, va, h1, h2, h3, h4, h5, h6, h7, h8⟩ := h
  exact ⟨vk, va, h1, h2, h3, h4, h5, h6, h7, h8.fr (Fr.refl No w) (fun _ _ _ e => e) fun x c _ hx => hx.up⟩
theorem _root_.Go.Proofs.YtgbiicipkbpmeaaGreatDoor.SC.EnIn.no {S : Nat → Prop} {w w' : World} {v : Value} {en : Ent} (h : EnIn S w v en) (hf : Fr No w w') : EnIn S w' v en := h.fr hf fun _ _ _ e => e
def Gm (w : World) : Prop := Gs w ∧ ∃ m, w.cell? ⟨0, 0, none⟩ = some (.int .i64 m)
def GM (X : Nat → Prop) : Prop := GX X ∧ X 0
theorem Gm.no {w w' : World} (h : Gm w) (hf : Fr No w w') : Gm w' := ⟨h.1.no hf, h.2.imp fun _ e => hf.cell e id⟩
theorem Gm.bb {X : Nat → Prop} {w w' : World} {b : Nat} (h : Gm w) (hf : Fr (fun k => k = b) w w') (hx : GM X) (hb : ¬ X b) : Gm w' :=
 ⟨h.1.bb hf hx.1 hb, h.2.imp fun _ e => hf.cell e (fun e => hb (by have e : 0 = b := e; rw [← e]; exact hx.2))⟩
theorem Gm.gx {w : World} (h : Gm w) : GM (fun k => k < w.heap.size) := ⟨h.1.gx, World.block_lt_of_cell? w _ h.2.choose_spec⟩
end Go.Proofs.YtgbiicipkbpmeaaGreatDoor.FT
namespace Go.Proofs.YtgbiicipkbpmeaaGreatDoor.FT
set_option maxRecDepth 100000
open Go.Shelf Go.RowKit K BE DN SC
end Go.Proofs.YtgbiicipkbpmeaaGreatDoor.FT
namespace Go.Proofs.YtgbiicipkbpmeaaGreatDoor.FT
set_option maxRecDepth 100000
open Go.RowKit K BE DN SC
def Tn (X : Nat → Prop) (b : Nat) (s : Sch) (w : World) : Prop := Sx w X b s ∧ (∀ k, X k → k < w.heap.size) ∧ GM X ∧ Gm w
section
variable {X : Nat → Prop} {b r : Nat} {s : Sch} {w w' : World}
theorem Tn.step (h : Tn X b s w) (hs : Sx w' X b s) (hf : Fr (fun k => k = b) w w') : Tn X b s w' := ⟨hs, fun k hk => Nat.lt_of_lt_of_le (h.2.1 k hk) hf.size, h.2.2.1, h.2.2.2.bb hf h.2.2.1 hs.nx⟩
theorem Tn.no (h : Tn X b s w) (hf : Fr No w w') : Tn X b s w' := ⟨h.1.no hf, fun k hk => Nat.lt_of_lt_of_le (h.2.1 k hk) hf.size, h.2.2.1, h.2.2.2.no hf⟩
theorem Tn.also (h : Tn X b s w) (hr : w.heap.size ≤ r) (hf : Fr No w w') (hr' : r < w'.heap.size) : Tn (Also X r) b s w' :=
 ⟨(h.1.also hr).no hf, also_lt h.2.1 hr' hf.size, ⟨h.2.2.1.1.also, .inl h.2.2.1.2⟩, h.2.2.2.no hf⟩
theorem Tn.set (h : Tn (Also X r) b s w) (hf : Fr (fun k => k = r) w w') (hl : GM (fun k => k < r)) : Tn (Also X r) b s w' :=
 ⟨h.1.fr hf fun k hk => .inl (.inr hk), fun k hk => Nat.lt_of_lt_of_le (h.2.1 k hk) hf.size, h.2.2.1, h.2.2.2.1.put hf hl.1, h.2.2.2.2.imp fun _ e => hf.cell e fun e => by have e : 0 = r := e; have := hl.2; omega⟩
theorem Tn.lt (h : Tn X b s w) : b < w.heap.size := h.1.lt
theorem Sx.back {w : World} (h : Sx w (Also X r) b s) : Sx w X b s := h.less fun _ hk => .inl hk
theorem Sx.set (h : Sx w (Also X r) b s) (hf : Fr (fun k => k = r) w w') : Sx w' (Also X r) b s := h.fr hf fun k hk => .inl (.inr hk)
end
theorem beqI {a b : Int} (h : a = b) : (a == b) = true := by rw [h]; exact beq_self_eq_true b
theorem beqN {a b : Int} (h : ¬ a = b) : (a == b) = false := by rw [beq_eq_false_iff_ne]; exact h
def AtO (S : Nat → Prop) (w : World) : Option Atr → List Value → Prop
 | none, cs => cs = [.string (sb []), .slice none 0 0]
 | some a, cs => AtC S w a cs
theorem AtO.fr {S D : Nat → Prop} {w w' : World} {o : Option Atr} {cs : List Value} (h : AtO S w o cs) (hf : Fr D w w') (hd : ∀ i, S i → i < w.heap.size → ¬ D i) : AtO S w' o cs := by
 cases o with
 | none => exact h
 | some a => exact AtC.fr h hf hd
theorem AtO.form {S : Nat → Prop} {w : World} {o : Option Atr} {cs : List Value} (h : AtO S w o cs) : ∃ x u, cs = [.string (sb x), u] ∧ Sz x ∧ LsIn S w u ((o.map (·.2)).getD []) := by
 cases o with
 | none =>
  obtain rfl := h
  exact ⟨[], .slice none 0 0, rfl, by unfold Sz; decide, none, 0, rfl, Nat.le_refl _, by simp, .inl rfl⟩
 | some a =>
  obtain ⟨v, rfl, hz, hl⟩ := h
  exact ⟨a.1, v, rfl, hz, hl⟩
theorem AtO.one {S : Nat → Prop} {w : World} {o : Option Atr} {cs : List Value} (h : AtO S w o cs) : cs.length = 2 ∧ ∀ v ∈ cs, v.oneCell' = true := by
 obtain ⟨x, u, rfl, -, hl⟩ := h.form
 obtain ⟨a, c, rfl, -, -⟩ := hl.form
 exact ⟨rfl, by simp [Value.oneCell']⟩
end Go.Proofs.YtgbiicipkbpmeaaGreatDoor.FT
namespace Go.Proofs.YtgbiicipkbpmeaaGreatDoor.FT
set_option maxRecDepth 100000
open Go.RowKit K BE DN SC
end Go.Proofs.YtgbiicipkbpmeaaGreatDoor.FT
namespace Go.Proofs.YtgbiicipkbpmeaaGreatDoor.FT
set_option maxRecDepth 100000
open Go.RowKit K BE DN SC
end Go.Proofs.YtgbiicipkbpmeaaGreatDoor.FT
namespace Go.Proofs.YtgbiicipkbpmeaaGreatDoor.FT
set_option maxRecDepth 100000
open Go.RowKit K BE DN SC
end Go.Proofs.YtgbiicipkbpmeaaGreatDoor.FT
namespace Go.Proofs.YtgbiicipkbpmeaaGreatDoor.FT
set_option maxRecDepth 100000
open BE DN SC
def isEsc (c : UInt8) : Bool := c == 40 || c == 41 || c == 42 || c == 92 || c == 0
def escB (c : UInt8) : B := if isEsc c then [92, dgt (c / 16), dgt (c % 16)] else [c]
def escF (v : B) : B := v.flatMap escB
theorem escB_len (c : UInt8) : (escB c).length ≤ 3 := by unfold escB; split <;> simp
theorem escF_len : ∀ v : B, (escF v).length ≤ 3 * v.length
 | [] => by simp [escF]
 | c :: r => by
  have ih := escF_len r
  have := escB_len c
  have e : escF (c :: r) = escB c ++ escF r := rfl
  rw [e, List.length_append, List.length_cons]
  omega
theorem escF_snoc (v : B) (c : UInt8) : escF (v ++ [c]) = escF v ++ escB c := by simp [escF]
theorem escF_take (v : B) (i : Nat) : (escF (v.take i)).length ≤ 3 * v.length := by
 have := escF_len (v.take i)
 rw [List.length_take] at this
 omega
end Go.Proofs.YtgbiicipkbpmeaaGreatDoor.FT
namespace Go.Proofs.YtgbiicipkbpmeaaGreatDoor.FT
set_option maxRecDepth 100000
open Go.RowKit K BE DN SC
theorem esc_no (c : UInt8) (h : isEsc c = false) : ((c.toNat : Int) == 40) = false ∧ ((c.toNat : Int) == 41) = false ∧ ((c.toNat : Int) == 42) = false ∧ ((c.toNat : Int) == 92) = false ∧ ((c.toNat : Int) == 0) = false := by
 have := u8_all (fun c => isEsc c || (c.toNat != 40 && c.toNat != 41 && c.toNat != 42 && c.toNat != 92 && c.toNat != 0)) (by decide +kernel) c
 rw [h, Bool.false_or] at this
 simp only [Bool.and_eq_true, bne_iff_ne, ne_eq] at this
 exact ⟨beqN (by omega), beqN (by omega), beqN (by omega), beqN (by omega), beqN (by omega)⟩
theorem esc_yes (c : UInt8) (h : isEsc c = true) : c = 40 ∨ c = 41 ∨ c = 42 ∨ c = 92 ∨ c = 0 := by
 unfold isEsc at h
 simpa [or_assoc] using h
set_option maxHeartbeats 16000000 in
theorem escaped_any (s : B) (hs : s.length ≤ 1099511627776) (w : World) : Calls Tryz.prog 95 #[.string (sb s)] w fun e w' => e = .returned (.string (sb (escF s))) ∧ Fr No w w' := by
 obtain ⟨S, hS⟩ : ∃ S, sb s = S := ⟨_, rfl⟩
 obtain ⟨n, hn⟩ : ∃ n, s.length = n := ⟨_, rfl⟩
 have hsz : (S.size : Int) = n := by rw [← hS, sb_size, hn]
 have hni : (n : Int) ≤ 1099511627776 := by omega
 have HS := hid hS; have HN := hid hn
 rw [hS]
 clear hS hn hs
 go_enter Tryz.func95, Tryz.ntmps95
 go_wp2_with fail
 go_loopw [3, 8] (fun dv iv wr => ∃ (i al : Nat), iv = .int .i64 i ∧ i ≤ n ∧ al ≤ 3 * n ∧ Hid (OwR 5 1 w wr dv al (u8s (escF (s.take i)))) ∧ Hid ((escF (s.take i)).length = al)) (fun _ iv _ => n - (intOf iv).toNat)
 case atStart => exact ⟨0, 0, rfl, Nat.zero_le _, Nat.zero_le _, hid (owR_nil (Fr.refl _ _)), hid rfl⟩
 case round =>
  obtain ⟨i, al, rfl, hi, hal, HO, HAL⟩ := hrel
  obtain ⟨va, vc, rfl⟩ := HO.out.1
  have hali : (al : Int) ≤ 3298534883328 := by omega
  have hal0 : (0 : Int) ≤ al := by omega
  by_cases hlt : i < n
  ·obtain ⟨c, hc⟩ : ∃ c, s[i]? = some c := ⟨_, List.getElem?_eq_getElem (by rw [HN.out]; exact hlt)⟩
   have hlti : (i : Int) < n := by omega
   have hi0 : (0 : Int) ≤ i := by omega
   have HLT := hid hlt
   have HNX : Hid (escF (s.take (i + 1)) = escF (s.take i) ++ escB c) := hid (by rw [List.take_add_one, hc, Option.toList_some, escF_snoc])
   have HLN : Hid ((escF (s.take (i + 1))).length ≤ 3 * n) := hid (by rw [← HN.out]; exact escF_take s _)
   clear hal hlt
   cases he : isEsc c with
   | false =>
    have HE : Hid (escB c = [c]) := hid (by unfold escB; rw [he]; rfl)
    obtain ⟨e0, e1, e2, e3, e4⟩ := esc_no c he
    have HC := hid hc
    clear hc he
    go_wp2_with (first
     | ((with_reducible refine K.atO (.index 9 _ _) ?_); refine wpL_valZ rfl (.int .u8 (c.toNat : Int)) (exec_idxB _ _ rfl s HS.out i c HC.out _ rfl rfl rfl _) ?_)
     | ((with_reducible refine K.atO (.buildSlice 150 _ _) ?_); refine wpL_app1 rfl rfl _ _ _ 150 5 rfl rfl Tryz.underlying150 infoU rfl (by decide) (by decide) HO.out (.int .u8 (c.toNat : Int)) [.int .u8 (c.toNat : Int)] rfl rfl rfl (by simp [Value.oneCell']) (fun _ => rfl) (fun _ => rfl) (by omega) (by omega) ?_; intro q a4 c4 w4 HO4 HF4)
     | fail)
    have HL4 : Hid ((escF (s.take (i + 1))).length = al + 1) := hid (by rw [HNX.out, HE.out, List.length_append, HAL.out]; rfl)
    refine ⟨⟨i + 1, al + 1, by go_num, HLT.out, by rw [← HL4.out]; exact HLN.out, hid ?_, HL4⟩, by have := HLT.out; simp [intOf]; omega⟩
    have h := HO4.out
    rw [HNX.out, HE.out]
    rwa [show u8s (escF (s.take i)) ++ [Value.int .u8 (c.toNat : Int)] = u8s (escF (s.take i) ++ [c]) by simp [u8s]] at h
   | true =>
    have HC := hid hc
    have hcs := esc_yes c he
    clear hc he
    rcases hcs with rfl | rfl | rfl | rfl | rfl
    ·have HE : Hid (escB 40 = [92, 50, 56]) := hid (by decide)
     go_wp2_with (first
      | ((with_reducible refine K.atO (.index 9 _ _) ?_); refine wpL_valZ rfl (.int .u8 40) (exec_idxB _ _ rfl s HS.out i 40 HC.out _ rfl rfl rfl _) ?_)
      | fail)
     have hold : Facts.hold [] wr.drew := Facts.nil_hold _
     refine wpD_region hold (by kernel_rfl) 10 rfl ?_
     (refine K.pl 0 (v := ?_) rfl ?_ ?_; rotate_left; (intro _w; go_simp; try with_reducible rfl); simp only [Act.put, K.put3])
     (refine K.pl 1 (v := ?_) rfl ?_ ?_; rotate_left; (intro _w; go_simp; try with_reducible rfl); simp only [Act.put, K.put3])
     (refine K.pl 2 (v := (.int .u8 2)) rfl ?_ ?_; (intro _w; kernel_rfl); simp only [Act.put, K.put3])
     (refine K.pl 3 (v := (.int .u8 50)) rfl ?_ ?_; (intro _w; kernel_rfl); simp only [Act.put, K.put3])
     (refine K.pl 4 (v := ?_) rfl ?_ ?_; rotate_left; (intro _w; go_simp; try with_reducible rfl); simp only [Act.put, K.put3])
     (refine K.pl 5 (v := (.int .u8 8)) rfl ?_ ?_; (intro _w; kernel_rfl); simp only [Act.put, K.put3])
     (refine K.pl 6 (v := (.int .u8 56)) rfl ?_ ?_; (intro _w; kernel_rfl); simp only [Act.put, K.put3])
     clear hold
     refine K.on 7 [] rfl (fun K7 hK7 => ?_)
     refine wp_buildRun 150 5 3 [(0, .const (.int .u8 92)), (1, .tmp 28), (2, .tmp 31)] rfl [.int .u8 92, .int .u8 50, .int .u8 56] (by
      have := run_bytes [.int .u8 92, .int .u8 50, .int .u8 56] (by simp) (by simp) (by simp) wr.drew
      exact this) ?_
     intro w3 HB3 HF3 HS3
     refine hK7 _ _ (Facts.nil_hold _) ?_
     clear hK7 K7
     simp only [Act.put, K.put3]
     have HO3 : Hid (OwR 5 1 w w3 (.slice va al vc) al (u8s (escF (s.take i)))) := hid (OwR.no HO.out ((Fr.refl No wr).drew.trans' HF3.out))
     refine K.on 8 [] rfl (fun K8 hK8 => ?_)
     refine wp_appR _ _ 150 5 rfl Tryz.underlying150 infoU rfl (by decide) HO3.out rfl wr.heap.size 3 3 _ rfl rfl HB3.out (by simp [Value.oneCell']) (by omega) (by omega) ?_
     intro a4 c4 w4 HO4 HF4
     refine hK8 _ _ (Facts.nil_hold _) ?_
     clear hK8 K8
     simp only [Act.put, K.put3]
     have hold : Facts.hold [] w4 := Facts.nil_hold _
     (refine K.pl 9 (v := ?_) rfl ?_ ?_; rotate_left; (intro _w; go_simp; try with_reducible rfl); simp only [Act.put, K.put3])
     clear hold
     refine wpD_done (by kernel_rfl) ?_ _
     go_wp2_with fail
     have HL4 : Hid ((escF (s.take (i + 1))).length = al + 3) := hid (by rw [HNX.out, HE.out, List.length_append, HAL.out]; rfl)
     refine ⟨⟨i + 1, al + 3, by go_num, HLT.out, by rw [← HL4.out]; exact HLN.out, hid ?_, HL4⟩, by have := HLT.out; simp [intOf]; omega⟩
     have h := HO4.out
     rw [HNX.out, HE.out]
     rwa [show u8s (escF (s.take i)) ++ [Value.int .u8 92, .int .u8 50, .int .u8 56] = u8s (escF (s.take i) ++ [92, 50, 56]) by simp [u8s]] at h
    ·have HE : Hid (escB 41 = [92, 50, 57]) := hid (by decide)
     go_wp2_with (first
      | ((with_reducible refine K.atO (.index 9 _ _) ?_); refine wpL_valZ rfl (.int .u8 41) (exec_idxB _ _ rfl s HS.out i 41 HC.out _ rfl rfl rfl _) ?_)
      | fail)
     have hold : Facts.hold [] wr.drew := Facts.nil_hold _
     refine wpD_region hold (by kernel_rfl) 10 rfl ?_
     (refine K.pl 0 (v := ?_) rfl ?_ ?_; rotate_left; (intro _w; go_simp; try with_reducible rfl); simp only [Act.put, K.put3])
     (refine K.pl 1 (v := ?_) rfl ?_ ?_; rotate_left; (intro _w; go_simp; try with_reducible rfl); simp only [Act.put, K.put3])
     (refine K.pl 2 (v := (.int .u8 2)) rfl ?_ ?_; (intro _w; kernel_rfl); simp only [Act.put, K.put3])
     (refine K.pl 3 (v := (.int .u8 50)) rfl ?_ ?_; (intro _w; kernel_rfl); simp only [Act.put, K.put3])
     (refine K.pl 4 (v := ?_) rfl ?_ ?_; rotate_left; (intro _w; go_simp; try with_reducible rfl); simp only [Act.put, K.put3])
     (refine K.pl 5 (v := (.int .u8 9)) rfl ?_ ?_; (intro _w; kernel_rfl); simp only [Act.put, K.put3])
     (refine K.pl 6 (v := (.int .u8 57)) rfl ?_ ?_; (intro _w; kernel_rfl); simp only [Act.put, K.put3])
     clear hold
     refine K.on 7 [] rfl (fun K7 hK7 => ?_)
     refine wp_buildRun 150 5 3 [(0, .const (.int .u8 92)), (1, .tmp 28), (2, .tmp 31)] rfl [.int .u8 92, .int .u8 50, .int .u8 57] (by
      have := run_bytes [.int .u8 92, .int .u8 50, .int .u8 57] (by simp) (by simp) (by simp) wr.drew
      exact this) ?_
     intro w3 HB3 HF3 HS3
     refine hK7 _ _ (Facts.nil_hold _) ?_
     clear hK7 K7
     simp only [Act.put, K.put3]
     have HO3 : Hid (OwR 5 1 w w3 (.slice va al vc) al (u8s (escF (s.take i)))) := hid (OwR.no HO.out ((Fr.refl No wr).drew.trans' HF3.out))
     refine K.on 8 [] rfl (fun K8 hK8 => ?_)
     refine wp_appR _ _ 150 5 rfl Tryz.underlying150 infoU rfl (by decide) HO3.out rfl wr.heap.size 3 3 _ rfl rfl HB3.out (by simp [Value.oneCell']) (by omega) (by omega) ?_
     intro a4 c4 w4 HO4 HF4
     refine hK8 _ _ (Facts.nil_hold _) ?_
     clear hK8 K8
     simp only [Act.put, K.put3]
     have hold : Facts.hold [] w4 := Facts.nil_hold _
     (refine K.pl 9 (v := ?_) rfl ?_ ?_; rotate_left; (intro _w; go_simp; try with_reducible rfl); simp only [Act.put, K.put3])
     clear hold
     refine wpD_done (by kernel_rfl) ?_ _
     go_wp2_with fail
     have HL4 : Hid ((escF (s.take (i + 1))).length = al + 3) := hid (by rw [HNX.out, HE.out, List.length_append, HAL.out]; rfl)
     refine ⟨⟨i + 1, al + 3, by go_num, HLT.out, by rw [← HL4.out]; exact HLN.out, hid ?_, HL4⟩, by have := HLT.out; simp [intOf]; omega⟩
     have h := HO4.out
     rw [HNX.out, HE.out]
     rwa [show u8s (escF (s.take i)) ++ [Value.int .u8 92, .int .u8 50, .int .u8 57] = u8s (escF (s.take i) ++ [92, 50, 57]) by simp [u8s]] at h
    ·have HE : Hid (escB 42 = [92, 50, 97]) := hid (by decide)
     go_wp2_with (first
      | ((with_reducible refine K.atO (.index 9 _ _) ?_); refine wpL_valZ rfl (.int .u8 42) (exec_idxB _ _ rfl s HS.out i 42 HC.out _ rfl rfl rfl _) ?_)
      | fail)
     have hold : Facts.hold [] wr.drew := Facts.nil_hold _
     refine wpD_region hold (by kernel_rfl) 10 rfl ?_
     (refine K.pl 0 (v := ?_) rfl ?_ ?_; rotate_left; (intro _w; go_simp; try with_reducible rfl); simp only [Act.put, K.put3])
     (refine K.pl 1 (v := ?_) rfl ?_ ?_; rotate_left; (intro _w; go_simp; try with_reducible rfl); simp only [Act.put, K.put3])
     (refine K.pl 2 (v := (.int .u8 2)) rfl ?_ ?_; (intro _w; kernel_rfl); simp only [Act.put, K.put3])
     (refine K.pl 3 (v := (.int .u8 50)) rfl ?_ ?_; (intro _w; kernel_rfl); simp only [Act.put, K.put3])
     (refine K.pl 4 (v := ?_) rfl ?_ ?_; rotate_left; (intro _w; go_simp; try with_reducible rfl); simp only [Act.put, K.put3])
     (refine K.pl 5 (v := (.int .u8 10)) rfl ?_ ?_; (intro _w; kernel_rfl); simp only [Act.put, K.put3])
     (refine K.pl 6 (v := (.int .u8 97)) rfl ?_ ?_; (intro _w; kernel_rfl); simp only [Act.put, K.put3])
     clear hold
     refine K.on 7 [] rfl (fun K7 hK7 => ?_)
     refine wp_buildRun 150 5 3 [(0, .const (.int .u8 92)), (1, .tmp 28), (2, .tmp 31)] rfl [.int .u8 92, .int .u8 50, .int .u8 97] (by
      have := run_bytes [.int .u8 92, .int .u8 50, .int .u8 97] (by simp) (by simp) (by simp) wr.drew
      exact this) ?_
     intro w3 HB3 HF3 HS3
     refine hK7 _ _ (Facts.nil_hold _) ?_
     clear hK7 K7
     simp only [Act.put, K.put3]
     have HO3 : Hid (OwR 5 1 w w3 (.slice va al vc) al (u8s (escF (s.take i)))) := hid (OwR.no HO.out ((Fr.refl No wr).drew.trans' HF3.out))
     refine K.on 8 [] rfl (fun K8 hK8 => ?_)
     refine wp_appR _ _ 150 5 rfl Tryz.underlying150 infoU rfl (by decide) HO3.out rfl wr.heap.size 3 3 _ rfl rfl HB3.out (by simp [Value.oneCell']) (by omega) (by omega) ?_
     intro a4 c4 w4 HO4 HF4
     refine hK8 _ _ (Facts.nil_hold _) ?_
     clear hK8 K8
     simp only [Act.put, K.put3]
     have hold : Facts.hold [] w4 := Facts.nil_hold _
     (refine K.pl 9 (v := ?_) rfl ?_ ?_; rotate_left; (intro _w; go_simp; try with_reducible rfl); simp only [Act.put, K.put3])
     clear hold
     refine wpD_done (by kernel_rfl) ?_ _
     go_wp2_with fail
     have HL4 : Hid ((escF (s.take (i + 1))).length = al + 3) := hid (by rw [HNX.out, HE.out, List.length_append, HAL.out]; rfl)
     refine ⟨⟨i + 1, al + 3, by go_num, HLT.out, by rw [← HL4.out]; exact HLN.out, hid ?_, HL4⟩, by have := HLT.out; simp [intOf]; omega⟩
     have h := HO4.out
     rw [HNX.out, HE.out]
     rwa [show u8s (escF (s.take i)) ++ [Value.int .u8 92, .int .u8 50, .int .u8 97] = u8s (escF (s.take i) ++ [92, 50, 97]) by simp [u8s]] at h
    ·have HE : Hid (escB 92 = [92, 53, 99]) := hid (by decide)
     go_wp2_with (first
      | ((with_reducible refine K.atO (.index 9 _ _) ?_); refine wpL_valZ rfl (.int .u8 92) (exec_idxB _ _ rfl s HS.out i 92 HC.out _ rfl rfl rfl _) ?_)
      | fail)
     have hold : Facts.hold [] wr.drew := Facts.nil_hold _
     refine wpD_region hold (by kernel_rfl) 10 rfl ?_
     (refine K.pl 0 (v := ?_) rfl ?_ ?_; rotate_left; (intro _w; go_simp; try with_reducible rfl); simp only [Act.put, K.put3])
     (refine K.pl 1 (v := ?_) rfl ?_ ?_; rotate_left; (intro _w; go_simp; try with_reducible rfl); simp only [Act.put, K.put3])
     (refine K.pl 2 (v := (.int .u8 5)) rfl ?_ ?_; (intro _w; kernel_rfl); simp only [Act.put, K.put3])
     (refine K.pl 3 (v := (.int .u8 53)) rfl ?_ ?_; (intro _w; kernel_rfl); simp only [Act.put, K.put3])
     (refine K.pl 4 (v := ?_) rfl ?_ ?_; rotate_left; (intro _w; go_simp; try with_reducible rfl); simp only [Act.put, K.put3])
     (refine K.pl 5 (v := (.int .u8 12)) rfl ?_ ?_; (intro _w; kernel_rfl); simp only [Act.put, K.put3])
     (refine K.pl 6 (v := (.int .u8 99)) rfl ?_ ?_; (intro _w; kernel_rfl); simp only [Act.put, K.put3])
     clear hold
     refine K.on 7 [] rfl (fun K7 hK7 => ?_)
     refine wp_buildRun 150 5 3 [(0, .const (.int .u8 92)), (1, .tmp 28), (2, .tmp 31)] rfl [.int .u8 92, .int .u8 53, .int .u8 99] (by
      have := run_bytes [.int .u8 92, .int .u8 53, .int .u8 99] (by simp) (by simp) (by simp) wr.drew
      exact this) ?_
     intro w3 HB3 HF3 HS3
     refine hK7 _ _ (Facts.nil_hold _) ?_
     clear hK7 K7
     simp only [Act.put, K.put3]
     have HO3 : Hid (OwR 5 1 w w3 (.slice va al vc) al (u8s (escF (s.take i)))) := hid (OwR.no HO.out ((Fr.refl No wr).drew.trans' HF3.out))
     refine K.on 8 [] rfl (fun K8 hK8 => ?_)
     refine wp_appR _ _ 150 5 rfl Tryz.underlying150 infoU rfl (by decide) HO3.out rfl wr.heap.size 3 3 _ rfl rfl HB3.out (by simp [Value.oneCell']) (by omega) (by omega) ?_
     intro a4 c4 w4 HO4 HF4
     refine hK8 _ _ (Facts.nil_hold _) ?_
     clear hK8 K8
     simp only [Act.put, K.put3]
     have hold : Facts.hold [] w4 := Facts.nil_hold _
     (refine K.pl 9 (v := ?_) rfl ?_ ?_; rotate_left; (intro _w; go_simp; try with_reducible rfl); simp only [Act.put, K.put3])
     clear hold
     refine wpD_done (by kernel_rfl) ?_ _
     go_wp2_with fail
     have HL4 : Hid ((escF (s.take (i + 1))).length = al + 3) := hid (by rw [HNX.out, HE.out, List.length_append, HAL.out]; rfl)
     refine ⟨⟨i + 1, al + 3, by go_num, HLT.out, by rw [← HL4.out]; exact HLN.out, hid ?_, HL4⟩, by have := HLT.out; simp [intOf]; omega⟩
     have h := HO4.out
     rw [HNX.out, HE.out]
     rwa [show u8s (escF (s.take i)) ++ [Value.int .u8 92, .int .u8 53, .int .u8 99] = u8s (escF (s.take i) ++ [92, 53, 99]) by simp [u8s]] at h
    ·have HE : Hid (escB 0 = [92, 48, 48]) := hid (by decide)
     go_wp2_with (first
      | ((with_reducible refine K.atO (.index 9 _ _) ?_); refine wpL_valZ rfl (.int .u8 0) (exec_idxB _ _ rfl s HS.out i 0 HC.out _ rfl rfl rfl _) ?_)
      | fail)
     have hold : Facts.hold [] wr.drew := Facts.nil_hold _
     refine wpD_region hold (by kernel_rfl) 10 rfl ?_
     (refine K.pl 0 (v := ?_) rfl ?_ ?_; rotate_left; (intro _w; go_simp; try with_reducible rfl); simp only [Act.put, K.put3])
     (refine K.pl 1 (v := ?_) rfl ?_ ?_; rotate_left; (intro _w; go_simp; try with_reducible rfl); simp only [Act.put, K.put3])
     (refine K.pl 2 (v := (.int .u8 0)) rfl ?_ ?_; (intro _w; kernel_rfl); simp only [Act.put, K.put3])
     (refine K.pl 3 (v := (.int .u8 48)) rfl ?_ ?_; (intro _w; kernel_rfl); simp only [Act.put, K.put3])
     (refine K.pl 4 (v := ?_) rfl ?_ ?_; rotate_left; (intro _w; go_simp; try with_reducible rfl); simp only [Act.put, K.put3])
     (refine K.pl 5 (v := (.int .u8 0)) rfl ?_ ?_; (intro _w; kernel_rfl); simp only [Act.put, K.put3])
     (refine K.pl 6 (v := (.int .u8 48)) rfl ?_ ?_; (intro _w; kernel_rfl); simp only [Act.put, K.put3])
     clear hold
     refine K.on 7 [] rfl (fun K7 hK7 => ?_)
     refine wp_buildRun 150 5 3 [(0, .const (.int .u8 92)), (1, .tmp 28), (2, .tmp 31)] rfl [.int .u8 92, .int .u8 48, .int .u8 48] (by
      have := run_bytes [.int .u8 92, .int .u8 48, .int .u8 48] (by simp) (by simp) (by simp) wr.drew
      exact this) ?_
     intro w3 HB3 HF3 HS3
     refine hK7 _ _ (Facts.nil_hold _) ?_
     clear hK7 K7
     simp only [Act.put, K.put3]
     have HO3 : Hid (OwR 5 1 w w3 (.slice va al vc) al (u8s (escF (s.take i)))) := hid (OwR.no HO.out ((Fr.refl No wr).drew.trans' HF3.out))
     refine K.on 8 [] rfl (fun K8 hK8 => ?_)
     refine wp_appR _ _ 150 5 rfl Tryz.underlying150 infoU rfl (by decide) HO3.out rfl wr.heap.size 3 3 _ rfl rfl HB3.out (by simp [Value.oneCell']) (by omega) (by omega) ?_
     intro a4 c4 w4 HO4 HF4
     refine hK8 _ _ (Facts.nil_hold _) ?_
     clear hK8 K8
     simp only [Act.put, K.put3]
     have hold : Facts.hold [] w4 := Facts.nil_hold _
     (refine K.pl 9 (v := ?_) rfl ?_ ?_; rotate_left; (intro _w; go_simp; try with_reducible rfl); simp only [Act.put, K.put3])
     clear hold
     refine wpD_done (by kernel_rfl) ?_ _
     go_wp2_with fail
     have HL4 : Hid ((escF (s.take (i + 1))).length = al + 3) := hid (by rw [HNX.out, HE.out, List.length_append, HAL.out]; rfl)
     refine ⟨⟨i + 1, al + 3, by go_num, HLT.out, by rw [← HL4.out]; exact HLN.out, hid ?_, HL4⟩, by have := HLT.out; simp [intOf]; omega⟩
     have h := HO4.out
     rw [HNX.out, HE.out]
     rwa [show u8s (escF (s.take i)) ++ [Value.int .u8 92, .int .u8 48, .int .u8 48] = u8s (escF (s.take i) ++ [92, 48, 48]) by simp [u8s]] at h
  ·obtain rfl : i = n := by omega
   have hall : s.take i = s := List.take_of_length_le (by rw [HN.out]; exact Nat.le_refl _)
   have HO2 : Hid (OwR 5 1 w wr (.slice va al vc) (escF s).length (u8s (escF s))) := hid (by
    have h := HO.out
    have h2 := HAL.out
    rw [hall] at h h2
    rw [h2]
    exact h)
   have HDEN := hid (owR_bytes HO2.out)
   clear hall hlt
   go_wp2_with (first
    | ((with_reducible refine K.atO (.convert _ 9 _) ?_); refine wpL_stringOf rfl _ _ _ _ rfl _ _ (escF s) rfl HDEN.out Tryz.underlying150 Tryz.underlying5 Tryz.underlying9 ?_)
    | fail)
   go_ret
   exact ⟨rfl, HO.out.fr⟩
def lst (b : Bool) (l : B) : Bool := (l.getLast?.map (· == 32)).getD b
theorem lst_cons (b : Bool) (x : UInt8) (r : B) : lst b (x :: r) = lst (x == 32) r := by
 unfold lst
 rw [List.getLast?_cons]
 cases r.getLast? <;> rfl
end Go.Proofs.YtgbiicipkbpmeaaGreatDoor.FT
