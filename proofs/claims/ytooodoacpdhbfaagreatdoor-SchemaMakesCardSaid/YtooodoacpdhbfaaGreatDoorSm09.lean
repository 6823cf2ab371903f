/-
  Part 9 of the proof: ScG, ScH, ScJ.
-/
import Derived.Test.YtooodoacpdhbfaaGreatDoorSm08
import Derived.Laws.StructEq
import Derived.Test.YtooodoacpdhbfaaGreatDoorSm07
set_option linter.unusedSimpArgs false
set_option linter.unusedVariables false
namespace Go.Proofs.YtooodoacpdhbfaaGreatDoor.SC
set_option maxRecDepth 100000
open Go.RowKit K Go.Proofs.YtooodoacpdhbfaaGreatDoor.BE Go.Proofs.YtooodoacpdhbfaaGreatDoor.DN

theorem ty_eq (x y : Ty) : decide (x = y) = (decide (x.nm = y.nm) && (decide (x.syn = y.syn) && (decide (x.one = y.one) && (decide (x.shut = y.shut) && (decide (x.sys = y.sys) && decide (x.share = y.share)))))) := by
  rw [Bool.eq_iff_iff]
  cases x; cases y
  simp
theorem eqIn_ty (p q : Ty) (w : World) : (Op.equalIn 10000 39 (.agg (tyV p).toArray) (.agg (tyV q).toArray)).run Tryz.prog w = .ok (decide (p = q)) w := by
  rw [show (10000 : Nat) = 9999 + 1 from rfl, run_equalIn_struct w 9999 39 _ _ (by kernel_rfl) (by kernel_rfl)]
  have hf : Tryz.prog.fieldsOf 39 = match Tryz.prog.underlying 39 with | some (.struct fs) => fs | _ => #[] := rfl
  rw [hf, Tryz.underlying39]
  have e1 := run_equalIn_string (P := Tryz.prog) w 9998 9 (sb p.nm) (sb q.nm) Tryz.underlying9
  rw [neq_sb p.nm q.nm] at e1
  have i0 := fun (a b : Int) => run_equalIn_int (P := Tryz.prog) w 9998 3 .i64 .i64 a b Tryz.underlying3
  have b0 := fun (a b : Bool) => run_equalIn_bool (P := Tryz.prog) w 9998 4 a b Tryz.underlying4
  have c1 : Tryz.prog.cellsOf 9 = 1 := by kernel_rfl
  rw [ty_eq]
  unfold tyV
  simp [Op.eqFields, part, isAgg, run_underlying Tryz.underlying9, run_underlying Tryz.underlying3, run_underlying Tryz.underlying4, e1, i0, b0]
  obtain ⟨n, k, a, b, c, d⟩ := p
  obtain ⟨n', k', a', b', c', d'⟩ := q
  simp only
  by_cases h1 : n = n' <;> by_cases h2 : k = k' <;> simp [h1, h2]
  by_cases h3 : a = a' <;> by_cases h4 : b = b' <;> by_cases h5 : c = c' <;> by_cases h6 : d = d' <;> simp [h3, h4, h5, h6]
theorem exec_eqTy {op : Oper} {a : Act} (x y : Operand) (t2 : TypeId) (ho : op.op = .binOp .eql 39 x y t2) (p q : Ty) (r : Bool) (hr : decide (p = q) = r) (hx : a.eval x = .agg (tyV p).toArray) (hy : a.eval y = .agg (tyV q).toArray) (w : World) : (execOp a.eval op).run Tryz.prog w = .ok (.value (.bool r)) w := by
  have h : (binOp .eql 39 (.agg (tyV p).toArray) (.agg (tyV q).toArray)).run Tryz.prog w = .ok (.bool (decide (p = q))) w := by
    rw [run_eql_struct, eqIn_ty p q w]
    rfl
  have hg : (eqGuard .eql 39 x y (.agg (tyV p).toArray) (.agg (tyV q).toArray)).run Tryz.prog w = .ok () w := by kernel_rfl
  unfold execOp
  simp only [ho, hx, hy, Sem.run_bind, hg, h, Result.andThen_ok, hr, Sem.run_pure]
theorem exec_neTy {op : Oper} {a : Act} (x y : Operand) (t2 : TypeId) (ho : op.op = .binOp .neq 39 x y t2) (p q : Ty) (r : Bool) (hr : (!decide (p = q)) = r) (hx : a.eval x = .agg (tyV p).toArray) (hy : a.eval y = .agg (tyV q).toArray) (w : World) : (execOp a.eval op).run Tryz.prog w = .ok (.value (.bool r)) w := by
  have h : (binOp .neq 39 (.agg (tyV p).toArray) (.agg (tyV q).toArray)).run Tryz.prog w = .ok (.bool (!decide (p = q))) w := by
    rw [run_neq_struct, eqIn_ty p q w]
    rfl
  have hg : (eqGuard .neq 39 x y (.agg (tyV p).toArray) (.agg (tyV q).toArray)).run Tryz.prog w = .ok () w := by kernel_rfl
  unfold execOp
  simp only [ho, hx, hy, Sem.run_bind, hg, h, Result.andThen_ok, hr, Sem.run_pure]
/-! ### Names -/
theorem idx_lt {α : Type} (f : α → B) (X : List α) (s : B) : decide (idxI X (fun x => low (f x) == low s) < 0) = (fnd (X.map f) s).isNone := by
  unfold idxI fnd
  rw [List.findIdx?_map]
  show _ = (X.findIdx? fun x => low (f x) == low s).isNone
  cases X.findIdx? fun x => low (f x) == low s with
  | none => rfl
  | some i => simp
theorem idx_some {α : Type} (f : α → B) {X : List α} {s : B} {i : Nat} (h : fnd (X.map f) s = some i) : idxI X (fun x => low (f x) == low s) = i := by
  unfold idxI
  unfold fnd at h
  rw [List.findIdx?_map] at h
  have h' : (X.findIdx? fun x => low (f x) == low s) = some i := h
  rw [h']
theorem idx_no {α : Type} (f : α → B) {X : List α} {s : B} (h : fnd (X.map f) s = none) : idxI X (fun x => low (f x) == low s) = -1 := by
  unfold idxI
  unfold fnd at h
  rw [List.findIdx?_map] at h
  have h' : (X.findIdx? fun x => low (f x) == low s) = none := h
  rw [h']
set_option maxHeartbeats 4000000 in
theorem isNewTy_any {S : Nat → Prop} (s : B) (v : Value) (X : List Ty) (w : World) (h : TysIn S w v X) (hs : Sz s) :
    Calls Tryz.prog 119 #[.string (sb s), v, .func (.func 120) #[] #[]] w fun e w' => e = .returned (.bool (newN (X.map (·.nm)) s)) ∧ Fr No w w' := by
  have HX := hid h; have HS := hid hs
  obtain ⟨a, c, rfl, hcap, hl⟩ := h.form
  obtain ⟨R, hR⟩ : ∃ R, newN (X.map (·.nm)) s = R := ⟨_, rfl⟩
  rw [hR]
  have HR : Hid ((typ s && (fnd (X.map (·.nm)) s).isNone) = R) := hid hR
  have HI : Hid (decide (idxI X (fun x => low x.nm == low s) < 0) = (fnd (X.map (·.nm)) s).isNone) := hid (idx_lt (·.nm) X s)
  have HF := hid (fun w' hf => findTy_any s (.slice a X.length c) X w' (TysIn.fr (D := No) HX.out hf (fun _ _ _ e => e)) HS.out)
  obtain ⟨m, hm⟩ : ∃ m, idxI X (fun x => low x.nm == low s) = m := ⟨_, rfl⟩
  rw [hm] at HI HF
  obtain ⟨n, hn⟩ : ∃ n, X.length = n := ⟨_, rfl⟩
  rw [hn] at HF ⊢
  clear h hs hR hm hn hcap hl HX
  go_enter Tryz.func119, Tryz.ntmps119
  go_wp2_with fail
  refine (type_any s w).mono ?_
  rintro e w1 ⟨rfl, f1⟩
  have HF1 := hid f1
  clear f1
  cases ht : typ s with
  | false =>
    obtain rfl : R = false := by have h := HR.out; rw [ht] at h; exact h.symm
    clear ht
    go_wp2_with fail
    go_ret
    exact ⟨rfl, HF1.out⟩
  | true =>
    have HR2 : Hid (decide (m < 0) = R) := hid (by have h := HR.out; rw [ht, ← HI.out] at h; exact h)
    clear ht
    go_wp2_with fail
    refine (HF.out _ HF1.out).mono ?_
    rintro e w2 ⟨rfl, f2⟩
    have HF2 := hid (HF1.out.trans' f2)
    clear f2
    go_wp2_with fail
    go_ret
    exact ⟨by rw [← HR2.out]; rfl, HF2.out⟩
set_option maxHeartbeats 4000000 in
theorem isNewCl_any {S : Nat → Prop} (s : B) (v : Value) (X : List Cl) (w : World) (h : ClsIn S w v X) (hs : Sz s) :
    Calls Tryz.prog 123 #[.string (sb s), v, .func (.func 124) #[] #[]] w fun e w' => e = .returned (.bool (newN (X.map (·.nm)) s)) ∧ Fr No w w' := by
  have HX := hid h; have HS := hid hs
  obtain ⟨a, c, rfl, hcap, hl⟩ := h.form
  obtain ⟨R, hR⟩ : ∃ R, newN (X.map (·.nm)) s = R := ⟨_, rfl⟩
  rw [hR]
  have HR : Hid ((typ s && (fnd (X.map (·.nm)) s).isNone) = R) := hid hR
  have HI : Hid (decide (idxI X (fun x => low x.nm == low s) < 0) = (fnd (X.map (·.nm)) s).isNone) := hid (idx_lt (·.nm) X s)
  have HF := hid (fun w' hf => findCl_any s (.slice a X.length c) X w' (ClsIn.fr (D := No) HX.out hf (fun _ _ _ e => e)) HS.out)
  obtain ⟨m, hm⟩ : ∃ m, idxI X (fun x => low x.nm == low s) = m := ⟨_, rfl⟩
  rw [hm] at HI HF
  obtain ⟨n, hn⟩ : ∃ n, X.length = n := ⟨_, rfl⟩
  rw [hn] at HF ⊢
  clear h hs hR hm hn hcap hl HX
  go_enter Tryz.func123, Tryz.ntmps123
  go_wp2_with fail
  refine (type_any s w).mono ?_
  rintro e w1 ⟨rfl, f1⟩
  have HF1 := hid f1
  clear f1
  cases ht : typ s with
  | false =>
    obtain rfl : R = false := by have h := HR.out; rw [ht] at h; exact h.symm
    clear ht
    go_wp2_with fail
    go_ret
    exact ⟨rfl, HF1.out⟩
  | true =>
    have HR2 : Hid (decide (m < 0) = R) := hid (by have h := HR.out; rw [ht, ← HI.out] at h; exact h)
    clear ht
    go_wp2_with fail
    refine (HF.out _ HF1.out).mono ?_
    rintro e w2 ⟨rfl, f2⟩
    have HF2 := hid (HF1.out.trans' f2)
    clear f2
    go_wp2_with fail
    go_ret
    exact ⟨by rw [← HR2.out]; rfl, HF2.out⟩
theorem build_ty (n : B) (w : World) : (Instr.build 39 #[(0, .string (sb n)), (1, .int .i64 1)]).run Tryz.prog w = .ok (.agg (tyV ⟨n, 1, false, false, false, false⟩).toArray) w := by kernel_rfl
theorem exec_buildTy {op : Oper} {a : Act} (x : Operand) (ho : op.op = .build 39 #[(0, x), (1, .const (.int .i64 1))]) (n : B) (hx : a.eval x = .string (sb n)) (w : World) : (execOp a.eval op).run Tryz.prog w = .ok (.value (.agg (tyV ⟨n, 1, false, false, false, false⟩).toArray)) w := by
  have h := build_ty n w
  have h1 : a.eval (.const (.int .i64 1)) = .int .i64 1 := rfl
  simp [execOp, ho, hx, h1, h, Result.andThen]
theorem rFirst_eq (t : Ty) : rFirst t = (decide (low t.nm = oc) && decide (t = ⟨t.nm, 1, false, false, false, false⟩)) := by
  unfold rFirst
  rw [ty_eq]
  obtain ⟨n, k, a, b, c, d⟩ := t
  congr 1
  simp only [decide_true, Bool.true_and]
  have e : (k == 1) = decide (k = 1) := by rw [Bool.eq_iff_iff]; simp
  rw [e]
  cases a <;> cases b <;> cases c <;> cases d <;> simp
set_option maxHeartbeats 4000000 in
theorem isRightFirst_any (t : Ty) (hz : Sz t.nm) (w : World) : Calls Tryz.prog 84 #[.agg (tyV t).toArray] w fun e w' => e = .returned (.bool (rFirst t)) ∧ Fr No w w' := by
  obtain ⟨R, hR⟩ : ∃ R, rFirst t = R := ⟨_, rfl⟩
  rw [hR]
  rw [rFirst_eq] at hR
  have HR := hid hR; have HZ := hid hz
  clear hR hz
  go_enter Tryz.func84, Tryz.ntmps84
  go_wp2_with (first
    | ((with_reducible refine K.atO (.box 39 _) ?_); refine wpL_box rfl _ _ rfl _ rfl (tyV t) rfl ?_; intro w1 HB1 HF1 HS1; refine Hid.out ?_)
    | fail)
  obtain ⟨g, hg⟩ : ∃ g, w.heap.size = g := ⟨_, rfl⟩
  rw [hg] at HB1 ⊢
  clear hg
  have c0 : w1.cell? ⟨g, 0, none⟩ = some (.string (sb t.nm)) := HB1.out.cell 0
  refine hid ?_
  go_wp2_with fail
  refine (slower_any t.nm HZ.out w1).mono ?_
  rintro e w2 ⟨rfl, f2⟩
  have HB2 := hid (HB1.out.fr f2 id)
  have c2 : w2.cell? ⟨g, 0, none⟩ = some (.string (sb t.nm)) := HB2.out.cell 0
  have HF2 := hid (HF1.out.trans' f2)
  have HR2 : Hid (w2.rangeAt g 0 (tyV t)) := hid (HB2.out.range 0 _ (by rw [List.drop_zero, List.take_length]))
  clear f2 c0
  obtain ⟨P, hP⟩ : ∃ P, decide (low t.nm = oc) = P := ⟨_, rfl⟩
  have HP := hid hP
  clear hP
  cases P with
  | false =>
    obtain rfl : R = false := by have h := HR.out; rw [HP.out] at h; exact h.symm
    go_wp2_with (first
      | ((with_reducible refine K.atO (.binOp .eql 9 _ _ _) ?_); refine wpL_valZ rfl (.bool false) (by rw [← HP.out]; exact exec_eqS _ _ _ rfl (low t.nm) oc rfl rfl w2) ?_)
      | fail)
    go_ret
    exact ⟨rfl, HF2.out⟩
  | true =>
    have HR3 : Hid (decide (t = ⟨t.nm, 1, false, false, false, false⟩) = R) := hid (by have h := HR.out; rw [HP.out] at h; exact h)
    go_wp2_with (first
      | ((with_reducible refine K.atO (.binOp .eql 9 _ _ _) ?_); refine wpL_valZ rfl (.bool true) (by rw [← HP.out]; exact exec_eqS _ _ _ rfl (low t.nm) oc rfl rfl w2) ?_)
      | ((with_reducible refine K.atO (.load 39 _) ?_); refine wpL_valZ rfl (.agg (tyV t).toArray) (exec_load _ _ rfl g 0 rfl (tyV t) _ rfl rfl infoTy w2 HR2.out) ?_)
      | ((with_reducible refine K.atO (.build 39 _) ?_); refine wpL_valZ rfl (.agg (tyV ⟨t.nm, 1, false, false, false, false⟩).toArray) (exec_buildTy _ rfl t.nm rfl w2) ?_)
      | ((with_reducible refine K.atO (.binOp .eql 39 _ _ _) ?_); refine wpL_valZ rfl (.bool R) (exec_eqTy _ _ _ rfl t ⟨t.nm, 1, false, false, false, false⟩ R HR3.out rfl rfl w2) ?_)
      | fail)
    go_ret
    exact ⟨rfl, HF2.out⟩
end Go.Proofs.YtooodoacpdhbfaaGreatDoor.SC

namespace Go.Proofs.YtooodoacpdhbfaaGreatDoor.SC
set_option maxRecDepth 100000
open Go.RowKit K Go.Proofs.YtooodoacpdhbfaaGreatDoor.BE Go.Proofs.YtooodoacpdhbfaaGreatDoor.DN

def clV (c : Cl) (v1 v2 : Value) : List Value := [.string (sb c.nm), .int .i64 c.kind, .string (sb c.sup), v1, v2]
theorem fnd_lt {L : List B} {s : B} {i : Nat} (h : fnd L s = some i) : i < L.length := by
  unfold fnd at h
  rw [List.findIdx?_eq_some_iff_getElem] at h
  exact h.1
set_option maxHeartbeats 4000000 in
theorem isRightSup_any {S : Nat → Prop} (c : Cl) (v1 v2 v : Value) (X : List Cl) (w : World) (h : ClsIn S w v X) (hz : Sz c.sup) :
    Calls Tryz.prog 125 #[.agg (clV c v1 v2).toArray, v] w fun e w' => e = .returned (.bool (supOk X c)) ∧ Fr No w w' := by
  have HX := hid h; have HZ := hid hz
  obtain ⟨a, cp, rfl, hcap, hl⟩ := h.form
  obtain ⟨R, hR⟩ : ∃ R, supOk X c = R := ⟨_, rfl⟩
  rw [hR]
  have HR := hid hR
  have HF := hid (fun w' hf => findCl_any c.sup (.slice a X.length cp) X w' (ClsIn.fr (D := No) HX.out hf (fun _ _ _ e => e)) HZ.out)
  obtain ⟨n, hn⟩ : ∃ n, X.length = n := ⟨_, rfl⟩
  have HNN := hid hn
  rw [hn] at HF HX hcap hl ⊢
  have hni : (n : Int) ≤ 140737488351232 := by omega
  have hnc : (n : Int) ≤ cp := by omega
  clear h hz hR hn hcap hl
  go_enter Tryz.func125, Tryz.ntmps125
  go_wp2_with (first
    | ((with_reducible refine K.atO (.box 44 _) ?_); refine wpL_box rfl _ _ rfl _ rfl (clV c v1 v2) rfl ?_; intro w1 HB1 HF1 HS1; refine Hid.out ?_)
    | fail)
  obtain ⟨g, hg⟩ : ∃ g, w.heap.size = g := ⟨_, rfl⟩
  rw [hg] at HB1 ⊢
  clear hg
  have c2 : w1.cell? ⟨g, 2, none⟩ = some (.string (sb c.sup)) := HB1.out.cell 2
  refine hid ?_
  obtain ⟨P, hP⟩ : ∃ P, decide (c.sup = []) = P := ⟨_, rfl⟩
  have HP := hid hP
  clear hP
  cases P with
  | true =>
    obtain rfl : R = true := by
      have h := HR.out
      have h2 := HP.out
      rw [decide_eq_true_eq] at h2
      unfold supOk at h
      rw [if_pos h2] at h
      exact h.symm
    go_wp2_with (first
      | ((with_reducible refine K.atO (.binOp .eql 9 _ _ _) ?_); refine wpL_valZ rfl (.bool true) (by rw [← HP.out]; exact exec_eqS _ _ _ rfl c.sup [] rfl rfl w1) ?_)
      | fail)
    go_ret
    exact ⟨rfl, HF1.out⟩
  | false =>
    have HR1 : Hid ((match fnd (X.map (·.nm)) c.sup with
      | none => false
      | some i => match X[i]? with
        | none => false
        | some d => d.kind == 0 || d.kind == c.kind) = R) := hid (by
      have h := HR.out
      have h2 := HP.out
      rw [decide_eq_false_iff_not] at h2
      unfold supOk at h
      rw [if_neg h2] at h
      exact h)
    go_wp2_with (first
      | ((with_reducible refine K.atO (.binOp .eql 9 _ _ _) ?_); refine wpL_valZ rfl (.bool false) (by rw [← HP.out]; exact exec_eqS _ _ _ rfl c.sup [] rfl rfl w1) ?_)
      | fail)
    refine (HF.out _ HF1.out).mono ?_
    rintro e w2 ⟨rfl, f2⟩
    have HF2 := hid (HF1.out.trans' f2)
    have b1 : w2.cell? ⟨g, 1, none⟩ = some (.int .i64 c.kind) := (HB1.out.fr f2 id).cell 1
    clear f2 c2
    cases hfd : fnd (X.map (·.nm)) c.sup with
    | none =>
      obtain rfl : R = false := by have h := HR1.out; rw [hfd] at h; exact h.symm
      have hm := idx_no (fun x : Cl => x.nm) hfd
      rw [hm]
      clear hfd hm
      go_wp2_with fail
      go_quiet (fail)
      go_wp2_with fail
      go_ret
      exact ⟨rfl, HF2.out.drewN _⟩
    | some i =>
      have hil : i < X.length := by have := fnd_lt hfd; rwa [List.length_map] at this
      obtain ⟨d, hd⟩ : ∃ d, X[i]? = some d := ⟨_, List.getElem?_eq_getElem hil⟩
      have HR2 : Hid ((d.kind == 0 || d.kind == c.kind) = R) := hid (by have h := HR1.out; rw [hfd] at h; simp only [hd] at h; exact h)
      have hm := idx_some (fun x : Cl => x.nm) hfd
      rw [hm]
      obtain ⟨gs, o, cp', cs, e1, -, -, hr, -, hp⟩ := (ClsIn.fr (D := No) HX.out HF2.out (fun _ _ _ e => e)).get hd
      obtain ⟨u1, u2, rfl, -⟩ := hp
      rw [HNN.out] at e1 hil
      simp only [Value.slice.injEq, true_and] at e1
      obtain ⟨rfl, rfl⟩ := e1
      have k1 : w2.cell? ⟨gs, o + i * 5 + 1, none⟩ = some (.int .i64 d.kind) := hr 1 _ rfl
      have hi0 : (0 : Int) ≤ i := by omega
      have hin : (i : Int) < n := by omega
      clear hfd hm hd hr hil
      cases hk : (d.kind == 0) with
      | true =>
        obtain rfl : R = true := by have h := HR2.out; rw [hk] at h; exact h.symm
        go_wp2_with fail
        go_quiet (fail)
        go_wp2_with fail
        go_ret
        exact ⟨rfl, HF2.out.drewN _⟩
      | false =>
        have HR3 : Hid ((d.kind == c.kind) = R) := hid (by have h := HR2.out; rw [hk] at h; exact h)
        go_wp2_with fail
        go_quiet (fail)
        go_wp2_with fail
        go_ret
        exact ⟨by rw [← HR3.out]; rfl, HF2.out.drewN _⟩
/-! ### Types -/
theorem exec_lssI {op : Oper} {a : Act} (x y : Operand) (u : TypeId) (ho : op.op = .binOp .lss 3 x y u) (p q : Int) (r : Bool) (hr : decide (p < q) = r) (hx : a.eval x = .int .i64 p) (hy : a.eval y = .int .i64 q) (w : World) : (execOp a.eval op).run Tryz.prog w = .ok (.value (.bool r)) w := by
  subst hr
  unfold execOp
  simp only [ho, hx, hy]
  simp [go_sem, eqGuard, Result.andThen]
theorem exec_gtrI {op : Oper} {a : Act} (x y : Operand) (u : TypeId) (ho : op.op = .binOp .gtr 3 x y u) (p q : Int) (r : Bool) (hr : decide (q < p) = r) (hx : a.eval x = .int .i64 p) (hy : a.eval y = .int .i64 q) (w : World) : (execOp a.eval op).run Tryz.prog w = .ok (.value (.bool r)) w := by
  subst hr
  unfold execOp
  simp only [ho, hx, hy]
  simp [go_sem, eqGuard, Result.andThen]
theorem exec_eqlI {op : Oper} {a : Act} (x y : Operand) (u : TypeId) (ho : op.op = .binOp .eql 3 x y u) (p q : Int) (r : Bool) (hr : decide (p = q) = r) (hx : a.eval x = .int .i64 p) (hy : a.eval y = .int .i64 q) (w : World) : (execOp a.eval op).run Tryz.prog w = .ok (.value (.bool r)) w := by
  subst hr
  unfold execOp
  simp only [ho, hx, hy]
  have e : (p == q) = decide (p = q) := by rw [Bool.eq_iff_iff]; simp
  simp [go_sem, eqGuard, Result.andThen, e]
theorem zeroTy : ∀ w, (zeroValue 39).run Tryz.prog w = .ok (.agg #[.string ⟨#[]⟩, .int .i64 0, .bool false, .bool false, .bool false, .bool false]) w := fun _ => by kernel_rfl
theorem zeroCl : ∀ w, (zeroValue 44).run Tryz.prog w = .ok (.agg #[.string ⟨#[]⟩, .int .i64 0, .string ⟨#[]⟩, .slice none 0 0, .slice none 0 0]) w := fun _ => by kernel_rfl
theorem oneTy (t : Ty) : ∀ v ∈ tyV t, v.oneCell' = true := by
  intro v hv
  simp only [tyV, List.mem_cons, List.not_mem_nil, or_false] at hv
  rcases hv with rfl | rfl | rfl | rfl | rfl | rfl <;> rfl
theorem drop_at {α : Type} {X : List α} {i : Nat} {x : α} (h : X[i]? = some x) : X.drop i = x :: X.drop (i + 1) ∧ X.take (i + 1) = X.take i ++ [x] := by
  obtain ⟨hl, e⟩ := List.getElem?_eq_some_iff.1 h
  exact ⟨by rw [List.drop_eq_getElem_cons hl, e], by rw [List.take_add_one, h]; rfl⟩
set_option maxHeartbeats 8000000 in
theorem areRightTypes_any {S : Nat → Prop} (v : Value) (X : List Ty) (w : World) (h : TysIn S w v X) :
    Calls Tryz.prog 85 #[v] w fun e w' => e = .returned (.bool (rTy [] X)) ∧ Fr No w w' := by
  have HX := hid h
  obtain ⟨a, cp, rfl, hcap, hl⟩ := h.form
  obtain ⟨R, hR⟩ : ∃ R, rTy [] X = R := ⟨_, rfl⟩
  rw [hR]
  have HR : Hid (rTy ((X.take 0).map (·.nm)) (X.drop 0) = R) := hid hR
  obtain ⟨n, hn⟩ : ∃ n, X.length = n := ⟨_, rfl⟩
  have HNN := hid hn
  rw [hn] at HX hcap hl ⊢
  have hni : (n : Int) ≤ 140737488351232 := by omega
  have hnc : (n : Int) ≤ cp := by omega
  clear h hR hn hcap hl
  go_enter Tryz.func85, Tryz.ntmps85
  go_wp2_with fail
  go_loopw [7] (fun iv wr => ∃ (i : Nat), iv = .int .i64 i ∧ i ≤ n ∧ Hid (Fr No w wr) ∧ Hid (rTy ((X.take i).map (·.nm)) (X.drop i) = R)) (fun iv _ => n - (intOf iv).toNat)
  case atStart => exact ⟨0, rfl, Nat.zero_le _, hid (Fr.refl _ _), HR⟩
  case round =>
    obtain ⟨i, rfl, hi, HF, HT⟩ := hrel
    by_cases hlt : i < n
    · obtain ⟨t, ht⟩ : ∃ t, X[i]? = some t := ⟨_, List.getElem?_eq_getElem (by rw [HNN.out]; exact hlt)⟩
      have hlti : (i : Int) < n := by omega
      have hi0 : (0 : Int) ≤ i := by omega
      have hicp : (i : Int) ≤ cp := by omega
      obtain ⟨g, o, cq, c, e1, -, -, hr, -, hp⟩ := (TysIn.fr (D := No) HX.out HF.out (fun _ _ _ e => e)).get ht
      rw [HNN.out] at e1
      simp only [Value.slice.injEq, true_and] at e1
      obtain ⟨rfl, rfl⟩ := e1
      obtain ⟨rfl, hz⟩ := hp
      have HRR := hid hr; have HZ := hid hz
      obtain ⟨hdrop, htake⟩ := drop_at ht
      have HT2 : Hid ((newN ((X.take i).map (·.nm)) t.nm && (decide (1 ≤ t.syn) && decide (t.syn ≤ 5)) && rTy ((X.take (i + 1)).map (·.nm)) (X.drop (i + 1))) = R) := hid (by
        have h := HT.out
        rw [hdrop] at h
        rw [htake, List.map_append]
        exact h)
      have HLT := hid hlt
      have HSUB : Hid (∀ w', Fr No w w' → TysIn S w' (.slice (some ⟨g, o, none⟩) i cp) (X.take i)) := hid (fun w' hf => Sl.take (TysIn.fr (D := No) HX.out hf (fun _ _ _ e => e)) i (Nat.le_of_lt HLT.out))
      clear hr hz ht hdrop htake HT hi hlt
      go_wp2_with (first
        | ((with_reducible refine K.atO (.load 39 _) ?_); refine wpL_load rfl _ _ rfl g (o + i * 6) rfl (tyV t) _ HRR.out rfl rfl infoTy ?_)
        | ((with_reducible refine K.atO (.alloc 39) ?_); refine wpL_alloc rfl _ rfl _ zeroTy _ rfl ?_; intro w2 HB2 HF2 HS2)
        | ((with_reducible refine K.atO (.store 39 _ _) ?_); refine wpL_store rfl _ _ _ rfl wr.heap.size 0 (tyV t) rfl rfl 39 _ HB2.out (by simp [tyV]) infoTy (oneTy t) ?_; intro w3 HB3 HF3 HS3)
        | fail)
      have HFR3 : Hid (Fr No wr w3) := hid (HF2.out.trans HF3.out fun k e => .inr (by have e : k = wr.heap.size := e; omega))
      obtain ⟨b, hb⟩ : ∃ b, wr.heap.size = b := ⟨_, rfl⟩
      rw [hb] at HB3 ⊢
      have HBK : Hid (Blk w3 b 39 (tyV t)) := hid HB3.out
      have c0 : w3.cell? ⟨b, 0, none⟩ = some (.string (sb t.nm)) := HBK.out.cell 0
      have c1 : w3.cell? ⟨b, 1, none⟩ = some (.int .i64 t.syn) := HBK.out.cell 1
      have hold : Facts.hold [(1, fun w' => w'.cell? ⟨b, 0, none⟩ = some (.string (sb t.nm))), (9, fun w' => w'.cell? ⟨b, 1, none⟩ = some (.int .i64 t.syn)), (14, fun w' => w'.cell? ⟨b, 1, none⟩ = some (.int .i64 t.syn))] w3.drew := Facts.cons_hold c0 (Facts.cons_hold c1 (Facts.cons_hold c1 (Facts.nil_hold _)))
      clear hb HB3 HB2 HF2 HF3 HS2 HS3
      refine wpD_region hold (by kernel_rfl) 17 rfl ?_
      (refine wpD_plain 0 (v := ?_) rfl (by kernel_rfl) (by kernel_rfl) (by kernel_rfl) (fun _ _ _ h => h) (by rfl) ?_ (by assumption) ?_; rotate_left; (intro _w; go_simp; try with_reducible rfl); simp only [Act.put, K.put3])
      (refine wpD_plain 2 (v := ?_) rfl (by kernel_rfl) (by kernel_rfl) (by kernel_rfl) (fun _ _ _ h => h) (by rfl) ?_ (by assumption) ?_; rotate_left; (intro _w; go_simp; try with_reducible rfl); simp only [Act.put, K.put3])
      (refine wpD_plain 3 (v := ?_) rfl (by kernel_rfl) (by kernel_rfl) (by kernel_rfl) (fun _ _ _ h => h) (by rfl) ?_ (by assumption) ?_; rotate_left; (intro _w; go_simp; try with_reducible rfl); simp only [Act.put, K.put3])
      (refine wpD_plain 4 (v := ?_) rfl (by kernel_rfl) (by kernel_rfl) (by kernel_rfl) (fun _ _ _ h => h) (by rfl) ?_ (by assumption) ?_; rotate_left; (intro _w; go_simp; try with_reducible rfl); simp only [Act.put, K.put3])
      (refine wpD_take 1 _ rfl (by kernel_rfl) (by kernel_rfl) (by kernel_rfl) (fun _ _ _ h => h) List.mem_cons_self (by rfl) (v := ?_) ?_ (by assumption) ?_; rotate_left; (intro _w _hw; go_simp; try with_reducible rfl); simp only [Act.put, K.put3])
      clear hold
      refine wpD_only 5 [(9, fun w' => w'.cell? ⟨b, 1, none⟩ = some (.int .i64 t.syn)), (14, fun w' => w'.cell? ⟨b, 1, none⟩ = some (.int .i64 t.syn))] rfl (by kernel_rfl) (by kernel_rfl) (by rfl) (fun K5 hK5 => ?_)
      refine wp_call _ _ _ rfl 119 [] rfl (fun vs w => by kernel_rfl) [.string (sb t.nm), .slice (some ⟨g, o, none⟩) i cp, .func (.func 120) #[] #[]] (by rfl) ?_
      refine (isNewTy_any t.nm _ (X.take i) w3.drew (HSUB.out _ (HF.out.trans' (HFR3.out.drew))) HZ.out).mono ?_
      rintro e w4 ⟨rfl, f4⟩
      have c14 : w4.cell? ⟨b, 1, none⟩ = some (.int .i64 t.syn) := f4.cell (show w3.drew.cell? _ = _ from c1) id
      have HFR4 := hid (HF.out.trans' (HFR3.out.drew.trans' f4))
      refine ⟨_, rfl, hK5 _ _ (Facts.cons_hold c14 (Facts.cons_hold c14 (Facts.nil_hold _))) ?_⟩
      have hold : Facts.hold [(9, fun w' => w'.cell? ⟨b, 1, none⟩ = some (.int .i64 t.syn)), (14, fun w' => w'.cell? ⟨b, 1, none⟩ = some (.int .i64 t.syn))] w4 := Facts.cons_hold c14 (Facts.cons_hold c14 (Facts.nil_hold _))
      clear hK5 K5 f4 c0 c1 HBK HFR3
      simp only [Act.put, K.put3]
      cases hq : newN ((X.take i).map (·.nm)) t.nm with
      | false =>
        obtain rfl : R = false := by have h := HT2.out; rw [hq] at h; exact h.symm
        clear hq
        (refine wpD_plain 6 (v := ?_) rfl (by kernel_rfl) (by kernel_rfl) (by kernel_rfl) (fun _ _ _ h => h) (by rfl) ?_ (by assumption) ?_; rotate_left; (intro _w; go_simp; try with_reducible rfl); simp only [Act.put, K.put3])
        (refine wpD_plain 7 (v := ?_) rfl (by kernel_rfl) (by kernel_rfl) (by kernel_rfl) (fun _ _ _ h => h) (by rfl) ?_ (by assumption) ?_; rotate_left; (intro _w; go_simp; try with_reducible rfl); simp only [Act.put, K.put3])
        (refine wpD_skip 8 rfl (by kernel_rfl) (by kernel_rfl) (by kernel_rfl) (fun _ _ _ h => h) (by rfl) (by assumption) ?_; simp only [Act.put, K.put3])
        (refine wpD_skip 9 rfl (by kernel_rfl) (by kernel_rfl) (by kernel_rfl) (fun _ _ _ h => h) (by rfl) (by assumption) ?_; simp only [Act.put, K.put3])
        (refine wpD_skip 10 rfl (by kernel_rfl) (by kernel_rfl) (by kernel_rfl) (fun _ _ _ h => h) (by rfl) (by assumption) ?_; simp only [Act.put, K.put3])
        (refine wpD_plain 11 (v := ?_) rfl (by kernel_rfl) (by kernel_rfl) (by kernel_rfl) (fun _ _ _ h => h) (by rfl) ?_ (by assumption) ?_; rotate_left; (intro _w; go_simp; try with_reducible rfl); simp only [Act.put, K.put3])
        (refine wpD_plain 12 (v := ?_) rfl (by kernel_rfl) (by kernel_rfl) (by kernel_rfl) (fun _ _ _ h => h) (by rfl) ?_ (by assumption) ?_; rotate_left; (intro _w; go_simp; try with_reducible rfl); simp only [Act.put, K.put3])
        (refine wpD_skip 13 rfl (by kernel_rfl) (by kernel_rfl) (by kernel_rfl) (fun _ _ _ h => h) (by rfl) (by assumption) ?_; simp only [Act.put, K.put3])
        (refine wpD_skip 14 rfl (by kernel_rfl) (by kernel_rfl) (by kernel_rfl) (fun _ _ _ h => h) (by rfl) (by assumption) ?_; simp only [Act.put, K.put3])
        (refine wpD_skip 15 rfl (by kernel_rfl) (by kernel_rfl) (by kernel_rfl) (fun _ _ _ h => h) (by rfl) (by assumption) ?_; simp only [Act.put, K.put3])
        (refine wpD_plain 16 (v := ?_) rfl (by kernel_rfl) (by kernel_rfl) (by kernel_rfl) (fun _ _ _ h => h) (by rfl) ?_ (by assumption) ?_; rotate_left; (intro _w; go_simp; try with_reducible rfl); simp only [Act.put, K.put3])
        clear hold
        refine wpD_done (by kernel_rfl) ?_ _
        go_wp2_with fail
        go_ret
        exact ⟨rfl, HFR4.out⟩
      | true =>
        (refine wpD_plain 6 (v := ?_) rfl (by kernel_rfl) (by kernel_rfl) (by kernel_rfl) (fun _ _ _ h => h) (by rfl) ?_ (by assumption) ?_; rotate_left; (intro _w; go_simp; try with_reducible rfl); simp only [Act.put, K.put3])
        (refine wpD_plain 7 (v := ?_) rfl (by kernel_rfl) (by kernel_rfl) (by kernel_rfl) (fun _ _ _ h => h) (by rfl) ?_ (by assumption) ?_; rotate_left; (intro _w; go_simp; try with_reducible rfl); simp only [Act.put, K.put3])
        (refine wpD_plain 8 (v := ?_) rfl (by kernel_rfl) (by kernel_rfl) (by kernel_rfl) (fun _ _ _ h => h) (by rfl) ?_ (by assumption) ?_; rotate_left; (intro _w; go_simp; try with_reducible rfl); simp only [Act.put, K.put3])
        (refine wpD_take 9 _ rfl (by kernel_rfl) (by kernel_rfl) (by kernel_rfl) (fun _ _ _ h => h) List.mem_cons_self (by rfl) (v := ?_) ?_ (by assumption) ?_; rotate_left; (intro _w _hw; go_simp; try with_reducible rfl); simp only [Act.put, K.put3])
        by_cases h1 : 1 ≤ t.syn
        case neg =>
          obtain rfl : R = false := by have h := HT2.out; rw [hq, decide_eq_false h1] at h; exact h.symm
          clear hq
          (refine wpD_plain 10 (v := (.bool true)) rfl (by kernel_rfl) (by kernel_rfl) (by kernel_rfl) (fun _ _ _ h => h) (by rfl) ?_ (by assumption) ?_; (intro _w; exact exec_lssI _ _ _ rfl t.syn 1 true (decide_eq_true (by omega)) rfl rfl _w); simp only [Act.put, K.put3])
          (refine wpD_plain 11 (v := ?_) rfl (by kernel_rfl) (by kernel_rfl) (by kernel_rfl) (fun _ _ _ h => h) (by rfl) ?_ (by assumption) ?_; rotate_left; (intro _w; go_simp; try with_reducible rfl); simp only [Act.put, K.put3])
          (refine wpD_plain 12 (v := ?_) rfl (by kernel_rfl) (by kernel_rfl) (by kernel_rfl) (fun _ _ _ h => h) (by rfl) ?_ (by assumption) ?_; rotate_left; (intro _w; go_simp; try with_reducible rfl); simp only [Act.put, K.put3])
          (refine wpD_skip 13 rfl (by kernel_rfl) (by kernel_rfl) (by kernel_rfl) (fun _ _ _ h => h) (by rfl) (by assumption) ?_; simp only [Act.put, K.put3])
          (refine wpD_skip 14 rfl (by kernel_rfl) (by kernel_rfl) (by kernel_rfl) (fun _ _ _ h => h) (by rfl) (by assumption) ?_; simp only [Act.put, K.put3])
          (refine wpD_skip 15 rfl (by kernel_rfl) (by kernel_rfl) (by kernel_rfl) (fun _ _ _ h => h) (by rfl) (by assumption) ?_; simp only [Act.put, K.put3])
          (refine wpD_plain 16 (v := ?_) rfl (by kernel_rfl) (by kernel_rfl) (by kernel_rfl) (fun _ _ _ h => h) (by rfl) ?_ (by assumption) ?_; rotate_left; (intro _w; go_simp; try with_reducible rfl); simp only [Act.put, K.put3])
          clear hold
          refine wpD_done (by kernel_rfl) ?_ _
          go_wp2_with fail
          go_ret
          exact ⟨rfl, HFR4.out⟩
        (refine wpD_plain 10 (v := (.bool false)) rfl (by kernel_rfl) (by kernel_rfl) (by kernel_rfl) (fun _ _ _ h => h) (by rfl) ?_ (by assumption) ?_; (intro _w; exact exec_lssI _ _ _ rfl t.syn 1 false (decide_eq_false (by omega)) rfl rfl _w); simp only [Act.put, K.put3])
        (refine wpD_plain 11 (v := ?_) rfl (by kernel_rfl) (by kernel_rfl) (by kernel_rfl) (fun _ _ _ h => h) (by rfl) ?_ (by assumption) ?_; rotate_left; (intro _w; go_simp; try with_reducible rfl); simp only [Act.put, K.put3])
        (refine wpD_plain 12 (v := ?_) rfl (by kernel_rfl) (by kernel_rfl) (by kernel_rfl) (fun _ _ _ h => h) (by rfl) ?_ (by assumption) ?_; rotate_left; (intro _w; go_simp; try with_reducible rfl); simp only [Act.put, K.put3])
        (refine wpD_plain 13 (v := ?_) rfl (by kernel_rfl) (by kernel_rfl) (by kernel_rfl) (fun _ _ _ h => h) (by rfl) ?_ (by assumption) ?_; rotate_left; (intro _w; go_simp; try with_reducible rfl); simp only [Act.put, K.put3])
        (refine wpD_take 14 _ rfl (by kernel_rfl) (by kernel_rfl) (by kernel_rfl) (fun _ _ _ h => h) (List.mem_cons_of_mem _ List.mem_cons_self) (by rfl) (v := ?_) ?_ (by assumption) ?_; rotate_left; (intro _w _hw; go_simp; try with_reducible rfl); simp only [Act.put, K.put3])
        by_cases h2 : t.syn ≤ 5
        case neg =>
          obtain rfl : R = false := by have h := HT2.out; rw [hq, decide_eq_false h2, Bool.and_false] at h; exact h.symm
          clear hq
          (refine wpD_plain 15 (v := (.bool true)) rfl (by kernel_rfl) (by kernel_rfl) (by kernel_rfl) (fun _ _ _ h => h) (by rfl) ?_ (by assumption) ?_; (intro _w; exact exec_gtrI _ _ _ rfl t.syn 5 true (decide_eq_true (by omega)) rfl rfl _w); simp only [Act.put, K.put3])
          (refine wpD_plain 16 (v := ?_) rfl (by kernel_rfl) (by kernel_rfl) (by kernel_rfl) (fun _ _ _ h => h) (by rfl) ?_ (by assumption) ?_; rotate_left; (intro _w; go_simp; try with_reducible rfl); simp only [Act.put, K.put3])
          clear hold
          refine wpD_done (by kernel_rfl) ?_ _
          go_wp2_with fail
          go_ret
          exact ⟨rfl, HFR4.out⟩
        have HT3 : Hid (rTy ((X.take (i + 1)).map (·.nm)) (X.drop (i + 1)) = R) := hid (by have h := HT2.out; rw [hq, decide_eq_true h1, decide_eq_true h2] at h; exact h)
        clear hq
        (refine wpD_plain 15 (v := (.bool false)) rfl (by kernel_rfl) (by kernel_rfl) (by kernel_rfl) (fun _ _ _ h => h) (by rfl) ?_ (by assumption) ?_; (intro _w; exact exec_gtrI _ _ _ rfl t.syn 5 false (decide_eq_false (by omega)) rfl rfl _w); simp only [Act.put, K.put3])
        (refine wpD_plain 16 (v := ?_) rfl (by kernel_rfl) (by kernel_rfl) (by kernel_rfl) (fun _ _ _ h => h) (by rfl) ?_ (by assumption) ?_; rotate_left; (intro _w; go_simp; try with_reducible rfl); simp only [Act.put, K.put3])
        clear hold
        refine wpD_done (by kernel_rfl) ?_ _
        clear h1 h2
        go_wp2_with fail
        refine ⟨⟨i + 1, by go_num, HLT.out, HFR4, HT3⟩, ?_⟩
        have := HLT.out
        simp [intOf]; omega
    · obtain rfl : i = n := by omega
      obtain rfl : R = true := by
        have h := HT.out
        rw [← HNN.out, List.drop_length] at h
        exact h.symm
      go_wp2_with fail
      go_ret
      exact ⟨rfl, HF.out⟩
end Go.Proofs.YtooodoacpdhbfaaGreatDoor.SC

namespace Go.Proofs.YtooodoacpdhbfaaGreatDoor.SC
set_option maxRecDepth 100000
open Go.RowKit K Go.Proofs.YtooodoacpdhbfaaGreatDoor.BE Go.Proofs.YtooodoacpdhbfaaGreatDoor.DN

theorem ls_str {S : Nat → Prop} {w : World} {v : Value} {l : List B} (h : LsIn S w v l) : Sl 1 (fun x c => ∃ v, c = [v] ∧ (v = .string (sb x) ∧ Sz x)) S w v l := Sl.mono h (fun _ h _ => h) fun x c _ h => ⟨_, h.1, rfl, h.2⟩
set_option maxHeartbeats 4000000 in
theorem noType_any {S : Nat → Prop} (n : B) (b : Nat) (vt vc : Value) (X : List Ty) (w : World) (hb : Blk w b 33 [vt, vc]) (h : TysIn S w vt X) (hz : Sz n) :
    Calls Tryz.prog 121 #[.string (sb n), .pointer (some ⟨b, 0, none⟩)] w fun e w' => e = .returned (.bool (fnd (X.map (·.nm)) n).isNone) ∧ Fr No w w' := by
  have hc : w.cell? ⟨b, 0, none⟩ = some vt := hb.cell 0
  have H := hid (findTy_any n vt X w h hz)
  rw [← idx_lt (fun x : Ty => x.nm) X n]
  obtain ⟨m, hm⟩ : ∃ m, idxI X (fun x => low x.nm == low n) = m := ⟨_, rfl⟩
  rw [hm] at H ⊢
  obtain ⟨a, cp, rfl, -, -⟩ := h.form
  generalize X.length = k at H hc hb
  clear h hz hm hb
  go_enter Tryz.func121, Tryz.ntmps121
  go_wp2_with fail
  refine H.out.mono ?_
  rintro e w1 ⟨rfl, f1⟩
  have HF := hid f1
  clear f1 hc
  go_wp2_with fail
  go_ret
  exact ⟨rfl, HF.out⟩
theorem has_not (tn l : List B) : (l.any fun m => (fnd tn m).isNone) = !has tn l := by
  unfold has
  induction l with
  | nil => rfl
  | cons a r ih =>
    rw [List.any_cons, List.all_cons, ih]
    cases fnd tn a <;> simp
theorem oneCl (c : Cl) {v1 v2 : Value} (h1 : v1.oneCell' = true) (h2 : v2.oneCell' = true) : ∀ v ∈ clV c v1 v2, v.oneCell' = true := by
  intro v hv
  simp only [clV, List.mem_cons, List.not_mem_nil, or_false] at hv
  rcases hv with rfl | rfl | rfl | rfl | rfl
  · rfl
  · rfl
  · rfl
  · exact h1
  · exact h2
set_option maxHeartbeats 16000000 in
theorem areRightClasses_any {S S2 : Nat → Prop} (vt vc : Value) (X : List Ty) (Y : List Cl) (w : World) (h : TysIn S w vt X) (hy : ClsIn S2 w vc Y) :
    Calls Tryz.prog 86 #[.agg #[vt, vc]] w fun e w' => e = .returned (.bool (rCl (X.map (·.nm)) [] Y)) ∧ Fr No w w' := by
  have HX := hid h; have HY := hid hy
  obtain ⟨a, cp, rfl, hcap, hl⟩ := hy.form
  obtain ⟨R, hR⟩ : ∃ R, rCl (X.map (·.nm)) [] Y = R := ⟨_, rfl⟩
  rw [hR]
  have HR : Hid (rCl (X.map (·.nm)) (Y.take 0) (Y.drop 0) = R) := hid hR
  obtain ⟨n, hn⟩ : ∃ n, Y.length = n := ⟨_, rfl⟩
  have HNN := hid hn
  rw [hn] at HY hcap hl ⊢
  have hni : (n : Int) ≤ 140737488351232 := by omega
  have hnc : (n : Int) ≤ cp := by omega
  clear h hy hR hn hcap hl
  go_enter Tryz.func86, Tryz.ntmps86
  go_wp2_with (first
    | ((with_reducible refine K.atO (.box 33 _) ?_); refine wpL_box rfl _ _ rfl _ rfl [vt, .slice a n cp] rfl ?_; intro w1 HB1 HF1 HS1; refine Hid.out ?_)
    | fail)
  obtain ⟨b, hb⟩ : ∃ b, w.heap.size = b := ⟨_, rfl⟩
  have HBB := hid hb
  rw [hb] at HB1 ⊢
  clear hb
  have s1 : w1.cell? ⟨b, 1, none⟩ = some (.slice a n cp) := HB1.out.cell 1
  refine hid ?_
  go_wp2_with fail
  go_loopw [11] (fun iv wr => ∃ (i : Nat), iv = .int .i64 i ∧ i ≤ n ∧ Hid (Fr No w1 wr) ∧ Hid (rCl (X.map (·.nm)) (Y.take i) (Y.drop i) = R)) (fun iv _ => n - (intOf iv).toNat)
  case atStart => exact ⟨0, rfl, Nat.zero_le _, hid (Fr.refl _ _), HR⟩
  case round =>
    clear s1
    obtain ⟨i, rfl, hi, HF, HT⟩ := hrel
    by_cases hlt : i < n
    · obtain ⟨c, hc⟩ : ∃ c, Y[i]? = some c := ⟨_, List.getElem?_eq_getElem (by rw [HNN.out]; exact hlt)⟩
      have hlti : (i : Int) < n := by omega
      have hi0 : (0 : Int) ≤ i := by omega
      have hicp : (i : Int) ≤ cp := by omega
      have HW : Hid (Fr No w wr) := hid (HF1.out.trans' HF.out)
      obtain ⟨g, o, cq, cs, e1, -, -, hr, -, hp⟩ := (ClsIn.fr (D := No) HY.out HW.out (fun _ _ _ e => e)).get hc
      rw [HNN.out] at e1
      simp only [Value.slice.injEq, true_and] at e1
      obtain ⟨rfl, rfl⟩ := e1
      obtain ⟨v1, v2, rfl, hz1, hz2, hv1, hv2, -⟩ := hp
      have HRR := hid hr; have HZ1 := hid hz1; have HZ2 := hid hz2; have HV1 := hid hv1; have HV2 := hid hv2
      have HONE : Hid (∀ v ∈ clV c v1 v2, v.oneCell' = true) := hid (oneCl c (by obtain ⟨a, cp, rfl, -⟩ := hv1.form; rfl) (by obtain ⟨a, cp, rfl, -⟩ := hv2.form; rfl))
      obtain ⟨hdrop, htake⟩ := drop_at hc
      have HT2 : Hid ((newN ((Y.take i).map (·.nm)) c.nm && (decide (0 ≤ c.kind) && decide (c.kind ≤ 2)) && supOk (Y.take i) c && has (X.map (·.nm)) c.must && has (X.map (·.nm)) c.may && rCl (X.map (·.nm)) (Y.take (i + 1)) (Y.drop (i + 1))) = R) := hid (by
        have h := HT.out
        rw [hdrop] at h
        rw [htake]
        exact h)
      have HLT := hid hlt
      have HSUB : Hid (∀ w', Fr No w w' → ClsIn S2 w' (.slice (some ⟨g, o, none⟩) i cp) (Y.take i)) := hid (fun w' hf => by
        have := Sl.take (ClsIn.fr (D := No) HY.out hf (fun _ _ _ e => e)) i (Nat.le_of_lt HLT.out)
        exact this)
      clear hr hz1 hz2 hv1 hv2 hc hdrop htake HT hi hlt
      go_wp2_with (first
        | ((with_reducible refine K.atO (.load 44 _) ?_); refine wpL_load rfl _ _ rfl g (o + i * 5) rfl (clV c v1 v2) _ HRR.out rfl rfl infoCl ?_)
        | ((with_reducible refine K.atO (.alloc 44) ?_); refine wpL_alloc rfl _ rfl _ zeroCl _ rfl ?_; intro w2 HB2 HF2 HS2)
        | ((with_reducible refine K.atO (.store 44 _ _) ?_); refine wpL_store rfl _ _ _ rfl wr.heap.size 0 (clV c v1 v2) rfl rfl 44 _ HB2.out (by simp [clV]) infoCl HONE.out ?_; intro w3 HB3 HF3 HS3; refine Hid.out ?_)
        | fail)
      have HFR3 : Hid (Fr No wr w3) := hid (HF2.out.trans HF3.out fun k e => .inr (by have e : k = wr.heap.size := e; omega))
      have HB13 : Hid (Blk w3 b 33 [vt, .slice (some ⟨g, o, none⟩) n cp]) := hid ((HB1.out.fr HF.out id).fr HFR3.out id)
      obtain ⟨b2, hb2⟩ : ∃ b2, wr.heap.size = b2 := ⟨_, rfl⟩
      rw [hb2] at HB3 ⊢
      have HBK : Hid (Blk w3 b2 44 (clV c v1 v2)) := hid HB3.out
      have HFW3 : Hid (Fr No w w3) := hid (HW.out.trans' HFR3.out)
      have HFWR3 : Hid (Fr No wr w3) := hid HFR3.out
      clear hb2 HB3 HB2 HF2 HF3 HS2 HS3 HFR3
      have s1 : w3.cell? ⟨b, 1, none⟩ = some (.slice (some ⟨g, o, none⟩) n cp) := HB13.out.cell 1
      have c0 : w3.cell? ⟨b2, 0, none⟩ = some (.string (sb c.nm)) := HBK.out.cell 0
      refine hid ?_
      go_wp2_with fail
      refine (isNewCl_any c.nm _ (Y.take i) w3 (HSUB.out _ HFW3.out) HZ1.out).mono ?_
      rintro e w4 ⟨rfl, f4⟩
      have HBK4 := hid (HBK.out.fr f4 id)
      have HB14 := hid (HB13.out.fr f4 id)
      have HFW4 := hid (HFW3.out.trans' f4)
      have HFWR4 := hid (HFWR3.out.trans' f4)
      clear f4 s1 c0 HBK HB13 HFW3
      cases hq : newN ((Y.take i).map (·.nm)) c.nm with
      | false =>
        obtain rfl : R = false := by have h := HT2.out; rw [hq] at h; exact h.symm
        clear hq
        go_wp2_with fail
        go_ret
        exact ⟨rfl, HFW4.out⟩
      | true =>
        have c1 : w4.cell? ⟨b2, 1, none⟩ = some (.int .i64 c.kind) := HBK4.out.cell 1
        by_cases h1 : 0 ≤ c.kind
        case neg =>
          obtain rfl : R = false := by have h := HT2.out; rw [hq, decide_eq_false h1] at h; exact h.symm
          clear hq
          have h1' : c.kind < 0 := by omega
          clear h1
          go_wp2_with fail
          go_ret
          exact ⟨rfl, HFW4.out⟩
        by_cases h2 : c.kind ≤ 2
        case neg =>
          obtain rfl : R = false := by have h := HT2.out; rw [hq, decide_eq_false h2, Bool.and_false] at h; exact h.symm
          clear hq
          have h2' : 2 < c.kind := by omega
          clear h2
          go_wp2_with fail
          go_ret
          exact ⟨rfl, HFW4.out⟩
        have HT3 : Hid ((supOk (Y.take i) c && has (X.map (·.nm)) c.must && has (X.map (·.nm)) c.may && rCl (X.map (·.nm)) (Y.take (i + 1)) (Y.drop (i + 1))) = R) := hid (by have h := HT2.out; rw [hq, decide_eq_true h1, decide_eq_true h2] at h; exact h)
        have HR4 : Hid (w4.rangeAt b2 0 (clV c v1 v2)) := hid (HBK4.out.range 0 _ (by rw [List.drop_zero, List.take_length]))
        have g1 : decide (c.kind < 0) = false := decide_eq_false (by omega)
        have g2 : decide (2 < c.kind) = false := decide_eq_false (by omega)
        clear hq HT2 h1 h2
        go_wp2_with (first
          | ((with_reducible refine K.atO (.load 44 _) ?_); refine wpL_valZ rfl (.agg (clV c v1 v2).toArray) (exec_load _ _ rfl b2 0 rfl (clV c v1 v2) _ rfl rfl infoCl w4 HR4.out) ?_)
          | fail)
        refine (isRightSup_any c v1 v2 _ (Y.take i) w4 (HSUB.out _ HFW4.out) HZ2.out).mono ?_
        rintro e w5 ⟨rfl, f5⟩
        have HBK5 := hid (HBK4.out.fr f5 id)
        have HB15 := hid (HB14.out.fr f5 id)
        have HFW5 := hid (HFW4.out.trans' f5)
        have HFWR5 := hid (HFWR4.out.trans' f5)
        clear f5 c1 HBK4 HB14 HFW4 HR4 g1 g2
        cases hq : supOk (Y.take i) c with
        | false =>
          obtain rfl : R = false := by have h := HT3.out; rw [hq] at h; exact h.symm
          clear hq
          go_wp2_with fail
          go_ret
          exact ⟨rfl, HFW5.out⟩
        | true =>
          have HT4 : Hid ((has (X.map (·.nm)) c.must && has (X.map (·.nm)) c.may && rCl (X.map (·.nm)) (Y.take (i + 1)) (Y.drop (i + 1))) = R) := hid (by have h := HT3.out; rw [hq] at h; exact h)
          have c3 : w5.cell? ⟨b2, 3, none⟩ = some v1 := HBK5.out.cell 3
          have HC := hid (fun (v0 : Value) (l : List B) (w6 : World) (hf : Fr No w w6) (hb6 : Blk w6 b 33 [vt, .slice (some ⟨g, o, none⟩) n cp]) (hl : LsIn S2 w6 v0 l) =>
            containsS (α := B) 121 [.pointer (some ⟨b, 0, none⟩)] (fun m => (fnd (X.map (·.nm)) m).isNone) (fun _ x v => v = .string (sb x) ∧ Sz x) No (fun w' => Fr No w6 w') S2 v0 l w6 (fun _ _ _ _ h _ => h) (fun _ _ _ e => e) (Fr.refl _ _) (ls_str hl) (fun _ _ => by kernel_rfl)
              (fun x _ cv wv hp hi _ => by
                obtain ⟨rfl, hz⟩ := hp
                exact (noType_any x b vt _ X wv (hb6.fr hi id) (TysIn.fr (D := No) HX.out (hf.trans' hi) (fun _ _ _ e => e)) hz).mono fun e w' ⟨h1, h2⟩ => ⟨h1, hi.trans' h2, h2⟩))
          have HM := hid (HC.out v1 c.must w5 HFW5.out HB15.out (LsIn.fr (D := No) HV1.out HFWR5.out (fun _ _ _ e => e)))
          rw [has_not] at HM
          clear hq
          go_wp2_with fail
          refine HM.out.mono ?_
          rintro e w6 ⟨rfl, -, f6⟩
          have HBK6 := hid (HBK5.out.fr f6 id)
          have HB16 := hid (HB15.out.fr f6 id)
          have HFW6 := hid (HFW5.out.trans' f6)
          have HFWR6 := hid (HFWR5.out.trans' f6)
          clear f6 c3 HBK5 HB15 HFW5 HFWR5 HM
          cases hq : has (X.map (·.nm)) c.must with
          | false =>
            obtain rfl : R = false := by have h := HT4.out; rw [hq] at h; exact h.symm
            clear hq
            go_wp2_with fail
            go_ret
            exact ⟨rfl, HFW6.out⟩
          | true =>
            have HT5 : Hid ((has (X.map (·.nm)) c.may && rCl (X.map (·.nm)) (Y.take (i + 1)) (Y.drop (i + 1))) = R) := hid (by have h := HT4.out; rw [hq] at h; exact h)
            have c4 : w6.cell? ⟨b2, 4, none⟩ = some v2 := HBK6.out.cell 4
            have HM := hid (HC.out v2 c.may w6 HFW6.out HB16.out (LsIn.fr (D := No) HV2.out HFWR6.out (fun _ _ _ e => e)))
            rw [has_not] at HM
            clear hq
            go_wp2_with fail
            refine HM.out.mono ?_
            rintro e w7 ⟨rfl, -, f7⟩
            have HFW7 := hid (HFW6.out.trans' f7)
            have HF7 := hid (HF.out.trans' (HFWR6.out.trans' f7))
            clear f7 c4 HM
            cases hq : has (X.map (·.nm)) c.may with
            | false =>
              obtain rfl : R = false := by have h := HT5.out; rw [hq] at h; exact h.symm
              clear hq
              go_wp2_with fail
              go_ret
              exact ⟨rfl, HFW7.out⟩
            | true =>
              have HT6 : Hid (rCl (X.map (·.nm)) (Y.take (i + 1)) (Y.drop (i + 1)) = R) := hid (by have h := HT5.out; rw [hq] at h; exact h)
              clear hq
              go_wp2_with fail
              refine ⟨⟨i + 1, by go_num, HLT.out, HF7, HT6⟩, ?_⟩
              have := HLT.out
              simp [intOf]; omega
    · obtain rfl : i = n := by omega
      obtain rfl : R = true := by
        have h := HT.out
        rw [← HNN.out, List.drop_length] at h
        exact h.symm
      go_wp2_with fail
      go_ret
      exact ⟨rfl, HF1.out.trans' HF.out⟩
set_option maxHeartbeats 8000000 in
theorem isRight_any {S S2 : Nat → Prop} (vt vc : Value) (s : Sch) (w : World) (h : TysIn S w vt s.tys) (hy : ClsIn S2 w vc s.cls) :
    Calls Tryz.prog 47 #[.agg #[vt, vc]] w fun e w' => e = .returned (.bool (okS s)) ∧ Fr No w w' := by
  have HX := hid h; have HY := hid hy
  have HA := hid (fun w' (hf : Fr No w w') => areRightTypes_any vt s.tys w' (TysIn.fr (D := No) h hf (fun _ _ _ e => e)))
  have HC := hid (fun w' (hf : Fr No w w') => areRightClasses_any vt vc s.tys s.cls w' (TysIn.fr (D := No) h hf (fun _ _ _ e => e)) (ClsIn.fr (D := No) hy hf (fun _ _ _ e => e)))
  obtain ⟨a, cp, rfl, hcap, hl⟩ := h.form
  obtain ⟨a2, cp2, rfl, hcap2, hl2⟩ := hy.form
  obtain ⟨R, hR⟩ : ∃ R, okS s = R := ⟨_, rfl⟩
  rw [hR]
  have HR := hid hR
  obtain ⟨n, hn⟩ : ∃ n, s.tys.length = n := ⟨_, rfl⟩
  obtain ⟨m, hm⟩ : ∃ m, s.cls.length = m := ⟨_, rfl⟩
  have HNN := hid hn; have HMM := hid hm
  rw [hn] at HX HA HC hcap hl ⊢
  rw [hm] at HY HC hcap2 hl2 ⊢
  have hni : (n : Int) ≤ 140737488351232 := by omega
  have hmi : (m : Int) ≤ 140737488351232 := by omega
  have hnc : (n : Int) ≤ cp := by omega
  clear h hy hR hn hm hcap hl hcap2 hl2
  go_enter Tryz.func47, Tryz.ntmps47
  go_wp2_with (first
    | ((with_reducible refine K.atO (.box 33 _) ?_); refine wpL_box rfl _ _ rfl _ rfl [.slice a n cp, .slice a2 m cp2] rfl ?_; intro w1 HB1 HF1 HS1; refine Hid.out ?_)
    | fail)
  obtain ⟨b, hb⟩ : ∃ b, w.heap.size = b := ⟨_, rfl⟩
  rw [hb] at HB1 ⊢
  clear hb
  have s0 : w1.cell? ⟨b, 0, none⟩ = some (.slice a n cp) := HB1.out.cell 0
  have s1 : w1.cell? ⟨b, 1, none⟩ = some (.slice a2 m cp2) := HB1.out.cell 1
  refine hid ?_
  by_cases h0 : n = 0
  · obtain rfl : R = false := by
      have h := HR.out
      unfold okS at h
      rw [decide_eq_false (show ¬ 1 ≤ s.tys.length by rw [HNN.out]; omega)] at h
      exact h.symm
    subst h0
    go_wp2_with fail
    go_ret
    exact ⟨rfl, HF1.out⟩
  have h0b : ((n : Int) == 0) = false := by rw [beq_eq_false_iff_ne]; omega
  by_cases h1 : 40 < n
  · obtain rfl : R = false := by
      have h := HR.out
      unfold okS at h
      rw [decide_eq_false (show ¬ s.tys.length ≤ 40 by rw [HNN.out]; omega), Bool.and_false] at h
      exact h.symm
    have h1i : (40 : Int) < n := by omega
    go_wp2_with fail
    go_ret
    exact ⟨rfl, HF1.out⟩
  have h1b : decide ((40 : Int) < n) = false := decide_eq_false (by omega)
  by_cases h2 : 20 < m
  · obtain rfl : R = false := by
      have h := HR.out
      unfold okS at h
      rw [decide_eq_false (show ¬ s.cls.length ≤ 20 by rw [HMM.out]; omega), Bool.and_false] at h
      exact h.symm
    have h2i : (20 : Int) < m := by omega
    go_wp2_with fail
    go_ret
    exact ⟨rfl, HF1.out⟩
  have h2b : decide ((20 : Int) < m) = false := decide_eq_false (by omega)
  have hpos : 0 < s.tys.length := by rw [HNN.out]; omega
  obtain ⟨t, r, htr⟩ : ∃ t r, s.tys = t :: r := by
    cases hs : s.tys with
    | nil => rw [hs] at hpos; simp at hpos
    | cons t r => exact ⟨t, r, rfl⟩
  have HR2 : Hid ((rFirst t && rTy [] s.tys && rCl s.tn [] s.cls) = R) := hid (by
    have h := HR.out
    unfold okS at h
    rw [decide_eq_true (show 1 ≤ s.tys.length from hpos), decide_eq_true (show s.tys.length ≤ 40 by rw [HNN.out]; omega), decide_eq_true (show s.cls.length ≤ 20 by rw [HMM.out]; omega), htr] at h
    rw [htr]
    exact h)
  obtain ⟨g, o, cq, cs, e1, -, -, hr, -, hp⟩ := (TysIn.fr (D := No) HX.out HF1.out (fun _ _ _ e => e)).get (j := 0) (x := t) (by rw [htr]; rfl)
  obtain ⟨rfl, hz⟩ := hp
  rw [HNN.out] at e1
  simp only [Value.slice.injEq, true_and] at e1
  obtain ⟨rfl, rfl⟩ := e1
  rw [Nat.zero_mul, Nat.add_zero] at hr
  have HRR := hid hr; have HZ := hid hz
  have h0i : (0 : Int) < n := by omega
  have h0n : 0 < n := by omega
  clear h0 h1 h2 hpos htr hr hz
  go_wp2_with (first
    | ((with_reducible refine K.atO (.load 39 _) ?_); refine wpL_load rfl _ _ rfl g o rfl (tyV t) _ HRR.out rfl rfl infoTy ?_)
    | fail)
  refine (isRightFirst_any t HZ.out w1).mono ?_
  rintro e w2 ⟨rfl, f2⟩
  have HB2 := hid (HB1.out.fr f2 id)
  have HF2 := hid (HF1.out.trans' f2)
  clear f2 s0 s1 h0b h1b h2b h0i h0n
  cases hq : rFirst t with
  | false =>
    obtain rfl : R = false := by have h := HR2.out; rw [hq] at h; exact h.symm
    clear hq
    go_wp2_with fail
    go_ret
    exact ⟨rfl, HF2.out⟩
  | true =>
    have HR3 : Hid ((rTy [] s.tys && rCl s.tn [] s.cls) = R) := hid (by have h := HR2.out; rw [hq] at h; exact h)
    have s0 : w2.cell? ⟨b, 0, none⟩ = some (.slice (some ⟨g, o, none⟩) n cp) := HB2.out.cell 0
    clear hq
    go_wp2_with fail
    refine (HA.out w2 HF2.out).mono ?_
    rintro e w3 ⟨rfl, f3⟩
    have HB3 := hid (HB2.out.fr f3 id)
    have HF3 := hid (HF2.out.trans' f3)
    clear f3 s0
    cases hq : rTy [] s.tys with
    | false =>
      obtain rfl : R = false := by have h := HR3.out; rw [hq] at h; exact h.symm
      clear hq
      go_wp2_with fail
      go_ret
      exact ⟨rfl, HF3.out⟩
    | true =>
      have HR4 : Hid (rCl s.tn [] s.cls = R) := hid (by have h := HR3.out; rw [hq] at h; exact h)
      have HRG : Hid (w3.rangeAt b 0 [.slice (some ⟨g, o, none⟩) n cp, .slice a2 m cp2]) := hid (HB3.out.range 0 _ rfl)
      clear hq
      go_wp2_with (first
        | ((with_reducible refine K.atO (.load 33 _) ?_); refine wpL_valZ rfl (.agg #[.slice (some ⟨g, o, none⟩) n cp, .slice a2 m cp2]) (exec_load _ _ rfl b 0 rfl [.slice (some ⟨g, o, none⟩) n cp, .slice a2 m cp2] _ rfl rfl infoSc w3 HRG.out) ?_)
        | fail)
      refine (HC.out w3 HF3.out).mono ?_
      rintro e w4 ⟨rfl, f4⟩
      have HF4 := hid (HF3.out.trans' f4)
      have e4 : rCl (s.tys.map (·.nm)) [] s.cls = R := HR4.out
      rw [e4]
      clear f4 e4
      go_wp2_with fail
      go_ret
      exact ⟨rfl, HF4.out⟩
end Go.Proofs.YtooodoacpdhbfaaGreatDoor.SC
