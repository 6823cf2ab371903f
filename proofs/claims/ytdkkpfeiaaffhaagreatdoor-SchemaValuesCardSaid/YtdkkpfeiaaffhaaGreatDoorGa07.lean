/-
  Part 7 of the proof: ScH, ScJ, ScK.
-/
import Derived.Test.YtdkkpfeiaaffhaaGreatDoorGa06
import Derived.Laws.Cover3
set_option linter.unusedSimpArgs false
set_option linter.unusedVariables false
namespace Go.Proofs.YtdkkpfeiaaffhaaGreatDoor.SC
set_option maxRecDepth 100000
open Go.RowKit K Go.Proofs.YtdkkpfeiaaffhaaGreatDoor.BE Go.Proofs.YtdkkpfeiaaffhaaGreatDoor.DN

def clV (c : Cl) (v1 v2 : Value) : List Value := [.string (sb c.nm), .int .i64 c.kind, .string (sb c.sup), v1, v2]
theorem fnd_lt {L : List B} {s : B} {i : Nat} (h : fnd L s = some i) : i < L.length := by
  unfold fnd at h
  rw [List.findIdx?_eq_some_iff_getElem] at h
  exact h.1
set_option maxHeartbeats 4000000 in
theorem isRightSup_any {S : Nat → Prop} (c : Cl) (v1 v2 v : Value) (X : List Cl) (w : World) (h : ClsIn S w v X) (hz : Sz c.sup) :
    Calls Tryz.prog 108 #[.agg (clV c v1 v2).toArray, v] w fun e w' => e = .returned (.bool (supOk X c)) ∧ Fr No w w' := by
  have HX := hid h; have HZ := hid hz
  obtain ⟨a, cp, rfl, hcap, hl⟩ := h.form
  obtain ⟨R, hR⟩ : ∃ R, supOk X c = R := ⟨_, rfl⟩
  rw [hR]
  have HR := hid hR
  have HF := hid (fun w' hf => findCl_any c.sup (.slice a X.length cp) X w' (ClsIn.fr (D := No) HX.out hf (fun _ _ _ e => e)) HZ.out)
  obtain ⟨n, hn⟩ : ∃ n, X.length = n := ⟨_, rfl⟩
  have HNN := hid hn
  rw [hn] at HF HX hcap hl ⊢
  have hni : (n : Int) ≤ 140737488351232 := by omega
  have hnc : (n : Int) ≤ cp := by omega
  clear h hz hR hn hcap hl
  go_enter Tryz.func108, Tryz.ntmps108
  go_wp2_with (first
    | ((with_reducible refine K.atO (.box 71 _) ?_); refine wpL_box rfl _ _ rfl _ rfl (clV c v1 v2) rfl ?_; intro w1 HB1 HF1 HS1; refine Hid.out ?_)
    | fail)
  obtain ⟨g, hg⟩ : ∃ g, w.heap.size = g := ⟨_, rfl⟩
  rw [hg] at HB1 ⊢
  clear hg
  have c2 : w1.cell? ⟨g, 2, none⟩ = some (.string (sb c.sup)) := HB1.out.cell 2
  refine hid ?_
  obtain ⟨P, hP⟩ : ∃ P, decide (c.sup = []) = P := ⟨_, rfl⟩
  have HP := hid hP
  clear hP
  cases P with
  | true =>
    obtain rfl : R = true := by
      have h := HR.out
      have h2 := HP.out
      rw [decide_eq_true_eq] at h2
      unfold supOk at h
      rw [if_pos h2] at h
      exact h.symm
    go_wp2_with (first
      | ((with_reducible refine K.atO (.binOp .eql 9 _ _ _) ?_); refine wpL_valZ rfl (.bool true) (by rw [← HP.out]; exact exec_eqS _ _ _ rfl c.sup [] rfl rfl w1) ?_)
      | fail)
    go_ret
    exact ⟨rfl, HF1.out⟩
  | false =>
    have HR1 : Hid ((match fnd (X.map (·.nm)) c.sup with
      | none => false
      | some i => match X[i]? with
        | none => false
        | some d => d.kind == 0 || d.kind == c.kind) = R) := hid (by
      have h := HR.out
      have h2 := HP.out
      rw [decide_eq_false_iff_not] at h2
      unfold supOk at h
      rw [if_neg h2] at h
      exact h)
    go_wp2_with (first
      | ((with_reducible refine K.atO (.binOp .eql 9 _ _ _) ?_); refine wpL_valZ rfl (.bool false) (by rw [← HP.out]; exact exec_eqS _ _ _ rfl c.sup [] rfl rfl w1) ?_)
      | fail)
    refine (HF.out _ HF1.out).mono ?_
    rintro e w2 ⟨rfl, f2⟩
    have HF2 := hid (HF1.out.trans' f2)
    have b1 : w2.cell? ⟨g, 1, none⟩ = some (.int .i64 c.kind) := (HB1.out.fr f2 id).cell 1
    clear f2 c2
    cases hfd : fnd (X.map (·.nm)) c.sup with
    | none =>
      obtain rfl : R = false := by have h := HR1.out; rw [hfd] at h; exact h.symm
      have hm := idx_no (fun x : Cl => x.nm) hfd
      rw [hm]
      clear hfd hm
      go_wp2_with fail
      go_quiet (fail)
      go_wp2_with fail
      go_ret
      exact ⟨rfl, HF2.out.drewN _⟩
    | some i =>
      have hil : i < X.length := by have := fnd_lt hfd; rwa [List.length_map] at this
      obtain ⟨d, hd⟩ : ∃ d, X[i]? = some d := ⟨_, List.getElem?_eq_getElem hil⟩
      have HR2 : Hid ((d.kind == 0 || d.kind == c.kind) = R) := hid (by have h := HR1.out; rw [hfd] at h; simp only [hd] at h; exact h)
      have hm := idx_some (fun x : Cl => x.nm) hfd
      rw [hm]
      obtain ⟨gs, o, cp', cs, e1, -, -, hr, -, hp⟩ := (ClsIn.fr (D := No) HX.out HF2.out (fun _ _ _ e => e)).get hd
      obtain ⟨u1, u2, rfl, -⟩ := hp
      rw [HNN.out] at e1 hil
      simp only [Value.slice.injEq, true_and] at e1
      obtain ⟨rfl, rfl⟩ := e1
      have k1 : w2.cell? ⟨gs, o + i * 5 + 1, none⟩ = some (.int .i64 d.kind) := hr 1 _ rfl
      have hi0 : (0 : Int) ≤ i := by omega
      have hin : (i : Int) < n := by omega
      clear hfd hm hd hr hil
      cases hk : (d.kind == 0) with
      | true =>
        obtain rfl : R = true := by have h := HR2.out; rw [hk] at h; exact h.symm
        go_wp2_with fail
        go_quiet (fail)
        go_wp2_with fail
        go_ret
        exact ⟨rfl, HF2.out.drewN _⟩
      | false =>
        have HR3 : Hid ((d.kind == c.kind) = R) := hid (by have h := HR2.out; rw [hk] at h; exact h)
        go_wp2_with fail
        go_quiet (fail)
        go_wp2_with fail
        go_ret
        exact ⟨by rw [← HR3.out]; rfl, HF2.out.drewN _⟩
/-! ### Types -/
theorem exec_lssI {op : Oper} {a : Act} (x y : Operand) (u : TypeId) (ho : op.op = .binOp .lss 3 x y u) (p q : Int) (r : Bool) (hr : decide (p < q) = r) (hx : a.eval x = .int .i64 p) (hy : a.eval y = .int .i64 q) (w : World) : (execOp a.eval op).run Tryz.prog w = .ok (.value (.bool r)) w := by
  subst hr
  unfold execOp
  simp only [ho, hx, hy]
  simp [go_sem, eqGuard, Result.andThen]
theorem exec_gtrI {op : Oper} {a : Act} (x y : Operand) (u : TypeId) (ho : op.op = .binOp .gtr 3 x y u) (p q : Int) (r : Bool) (hr : decide (q < p) = r) (hx : a.eval x = .int .i64 p) (hy : a.eval y = .int .i64 q) (w : World) : (execOp a.eval op).run Tryz.prog w = .ok (.value (.bool r)) w := by
  subst hr
  unfold execOp
  simp only [ho, hx, hy]
  simp [go_sem, eqGuard, Result.andThen]
theorem zeroTy : ∀ w, (zeroValue 62).run Tryz.prog w = .ok (.agg #[.string ⟨#[]⟩, .int .i64 0, .bool false, .bool false, .bool false, .bool false]) w := fun _ => by kernel_rfl
theorem zeroCl : ∀ w, (zeroValue 71).run Tryz.prog w = .ok (.agg #[.string ⟨#[]⟩, .int .i64 0, .string ⟨#[]⟩, .slice none 0 0, .slice none 0 0]) w := fun _ => by kernel_rfl
theorem oneTy (t : Ty) : ∀ v ∈ tyV t, v.oneCell' = true := by
  intro v hv
  simp only [tyV, List.mem_cons, List.not_mem_nil, or_false] at hv
  rcases hv with rfl | rfl | rfl | rfl | rfl | rfl <;> rfl
theorem drop_at {α : Type} {X : List α} {i : Nat} {x : α} (h : X[i]? = some x) : X.drop i = x :: X.drop (i + 1) ∧ X.take (i + 1) = X.take i ++ [x] := by
  obtain ⟨hl, e⟩ := List.getElem?_eq_some_iff.1 h
  exact ⟨by rw [List.drop_eq_getElem_cons hl, e], by rw [List.take_add_one, h]; rfl⟩
set_option maxHeartbeats 8000000 in
theorem areRightTypes_any {S : Nat → Prop} (v : Value) (X : List Ty) (w : World) (h : TysIn S w v X) :
    Calls Tryz.prog 64 #[v] w fun e w' => e = .returned (.bool (rTy [] X)) ∧ Fr No w w' := by
  have HX := hid h
  obtain ⟨a, cp, rfl, hcap, hl⟩ := h.form
  obtain ⟨R, hR⟩ : ∃ R, rTy [] X = R := ⟨_, rfl⟩
  rw [hR]
  have HR : Hid (rTy ((X.take 0).map (·.nm)) (X.drop 0) = R) := hid hR
  obtain ⟨n, hn⟩ : ∃ n, X.length = n := ⟨_, rfl⟩
  have HNN := hid hn
  rw [hn] at HX hcap hl ⊢
  have hni : (n : Int) ≤ 140737488351232 := by omega
  have hnc : (n : Int) ≤ cp := by omega
  clear h hR hn hcap hl
  go_enter Tryz.func64, Tryz.ntmps64
  go_wp2_with fail
  go_loopw [7] (fun iv wr => ∃ (i : Nat), iv = .int .i64 i ∧ i ≤ n ∧ Hid (Fr No w wr) ∧ Hid (rTy ((X.take i).map (·.nm)) (X.drop i) = R)) (fun iv _ => n - (intOf iv).toNat)
  case atStart => exact ⟨0, rfl, Nat.zero_le _, hid (Fr.refl _ _), HR⟩
  case round =>
    obtain ⟨i, rfl, hi, HF, HT⟩ := hrel
    by_cases hlt : i < n
    · obtain ⟨t, ht⟩ : ∃ t, X[i]? = some t := ⟨_, List.getElem?_eq_getElem (by rw [HNN.out]; exact hlt)⟩
      have hlti : (i : Int) < n := by omega
      have hi0 : (0 : Int) ≤ i := by omega
      have hicp : (i : Int) ≤ cp := by omega
      obtain ⟨g, o, cq, c, e1, -, -, hr, -, hp⟩ := (TysIn.fr (D := No) HX.out HF.out (fun _ _ _ e => e)).get ht
      rw [HNN.out] at e1
      simp only [Value.slice.injEq, true_and] at e1
      obtain ⟨rfl, rfl⟩ := e1
      obtain ⟨rfl, hz⟩ := hp
      have HRR := hid hr; have HZ := hid hz
      obtain ⟨hdrop, htake⟩ := drop_at ht
      have HT2 : Hid ((newN ((X.take i).map (·.nm)) t.nm && (decide (1 ≤ t.syn) && decide (t.syn ≤ 5)) && rTy ((X.take (i + 1)).map (·.nm)) (X.drop (i + 1))) = R) := hid (by
        have h := HT.out
        rw [hdrop] at h
        rw [htake, List.map_append]
        exact h)
      have HLT := hid hlt
      have HSUB : Hid (∀ w', Fr No w w' → TysIn S w' (.slice (some ⟨g, o, none⟩) i cp) (X.take i)) := hid (fun w' hf => Sl.take (TysIn.fr (D := No) HX.out hf (fun _ _ _ e => e)) i (Nat.le_of_lt HLT.out))
      clear hr hz ht hdrop htake HT hi hlt
      go_wp2_with (first
        | ((with_reducible refine K.atO (.load 62 _) ?_); refine wpL_load rfl _ _ rfl g (o + i * 6) rfl (tyV t) _ HRR.out rfl rfl infoTy ?_)
        | ((with_reducible refine K.atO (.alloc 62) ?_); refine wpL_alloc rfl _ rfl _ zeroTy _ rfl ?_; intro w2 HB2 HF2 HS2)
        | ((with_reducible refine K.atO (.store 62 _ _) ?_); refine wpL_store rfl _ _ _ rfl wr.heap.size 0 (tyV t) rfl rfl 62 _ HB2.out (by simp [tyV]) infoTy (oneTy t) ?_; intro w3 HB3 HF3 HS3)
        | fail)
      have HFR3 : Hid (Fr No wr w3) := hid (HF2.out.trans HF3.out fun k e => .inr (by have e : k = wr.heap.size := e; omega))
      obtain ⟨b, hb⟩ : ∃ b, wr.heap.size = b := ⟨_, rfl⟩
      rw [hb] at HB3 ⊢
      have HBK : Hid (Blk w3 b 62 (tyV t)) := hid HB3.out
      have c0 : w3.cell? ⟨b, 0, none⟩ = some (.string (sb t.nm)) := HBK.out.cell 0
      have c1 : w3.cell? ⟨b, 1, none⟩ = some (.int .i64 t.syn) := HBK.out.cell 1
      have hold : Facts.hold [(1, fun w' => w'.cell? ⟨b, 0, none⟩ = some (.string (sb t.nm))), (9, fun w' => w'.cell? ⟨b, 1, none⟩ = some (.int .i64 t.syn)), (14, fun w' => w'.cell? ⟨b, 1, none⟩ = some (.int .i64 t.syn))] w3.drew := Facts.cons_hold c0 (Facts.cons_hold c1 (Facts.cons_hold c1 (Facts.nil_hold _)))
      clear hb HB3 HB2 HF2 HF3 HS2 HS3
      refine wpD_region hold (by kernel_rfl) 17 rfl ?_
      (refine wpD_plain 0 (v := ?_) rfl (by kernel_rfl) (by kernel_rfl) (by kernel_rfl) (fun _ _ _ h => h) (by rfl) ?_ (by assumption) ?_; rotate_left; (intro _w; go_simp; try with_reducible rfl); simp only [Act.put, K.put3])
      (refine wpD_plain 2 (v := ?_) rfl (by kernel_rfl) (by kernel_rfl) (by kernel_rfl) (fun _ _ _ h => h) (by rfl) ?_ (by assumption) ?_; rotate_left; (intro _w; go_simp; try with_reducible rfl); simp only [Act.put, K.put3])
      (refine wpD_plain 3 (v := ?_) rfl (by kernel_rfl) (by kernel_rfl) (by kernel_rfl) (fun _ _ _ h => h) (by rfl) ?_ (by assumption) ?_; rotate_left; (intro _w; go_simp; try with_reducible rfl); simp only [Act.put, K.put3])
      (refine wpD_plain 4 (v := ?_) rfl (by kernel_rfl) (by kernel_rfl) (by kernel_rfl) (fun _ _ _ h => h) (by rfl) ?_ (by assumption) ?_; rotate_left; (intro _w; go_simp; try with_reducible rfl); simp only [Act.put, K.put3])
      (refine wpD_take 1 _ rfl (by kernel_rfl) (by kernel_rfl) (by kernel_rfl) (fun _ _ _ h => h) List.mem_cons_self (by rfl) (v := ?_) ?_ (by assumption) ?_; rotate_left; (intro _w _hw; go_simp; try with_reducible rfl); simp only [Act.put, K.put3])
      clear hold
      refine wpD_only 5 [(9, fun w' => w'.cell? ⟨b, 1, none⟩ = some (.int .i64 t.syn)), (14, fun w' => w'.cell? ⟨b, 1, none⟩ = some (.int .i64 t.syn))] rfl (by kernel_rfl) (by kernel_rfl) (by rfl) (fun K5 hK5 => ?_)
      refine wp_call _ _ _ rfl 102 [] rfl (fun vs w => by kernel_rfl) [.string (sb t.nm), .slice (some ⟨g, o, none⟩) i cp, .func (.func 103) #[] #[]] (by rfl) ?_
      refine (isNewTy_any t.nm _ (X.take i) w3.drew (HSUB.out _ (HF.out.trans' (HFR3.out.drew))) HZ.out).mono ?_
      rintro e w4 ⟨rfl, f4⟩
      have c14 : w4.cell? ⟨b, 1, none⟩ = some (.int .i64 t.syn) := f4.cell (show w3.drew.cell? _ = _ from c1) id
      have HFR4 := hid (HF.out.trans' (HFR3.out.drew.trans' f4))
      refine ⟨_, rfl, hK5 _ _ (Facts.cons_hold c14 (Facts.cons_hold c14 (Facts.nil_hold _))) ?_⟩
      have hold : Facts.hold [(9, fun w' => w'.cell? ⟨b, 1, none⟩ = some (.int .i64 t.syn)), (14, fun w' => w'.cell? ⟨b, 1, none⟩ = some (.int .i64 t.syn))] w4 := Facts.cons_hold c14 (Facts.cons_hold c14 (Facts.nil_hold _))
      clear hK5 K5 f4 c0 c1 HBK HFR3
      simp only [Act.put, K.put3]
      cases hq : newN ((X.take i).map (·.nm)) t.nm with
      | false =>
        obtain rfl : R = false := by have h := HT2.out; rw [hq] at h; exact h.symm
        clear hq
        (refine wpD_plain 6 (v := ?_) rfl (by kernel_rfl) (by kernel_rfl) (by kernel_rfl) (fun _ _ _ h => h) (by rfl) ?_ (by assumption) ?_; rotate_left; (intro _w; go_simp; try with_reducible rfl); simp only [Act.put, K.put3])
        (refine wpD_plain 7 (v := ?_) rfl (by kernel_rfl) (by kernel_rfl) (by kernel_rfl) (fun _ _ _ h => h) (by rfl) ?_ (by assumption) ?_; rotate_left; (intro _w; go_simp; try with_reducible rfl); simp only [Act.put, K.put3])
        (refine wpD_skip 8 rfl (by kernel_rfl) (by kernel_rfl) (by kernel_rfl) (fun _ _ _ h => h) (by rfl) (by assumption) ?_; simp only [Act.put, K.put3])
        (refine wpD_skip 9 rfl (by kernel_rfl) (by kernel_rfl) (by kernel_rfl) (fun _ _ _ h => h) (by rfl) (by assumption) ?_; simp only [Act.put, K.put3])
        (refine wpD_skip 10 rfl (by kernel_rfl) (by kernel_rfl) (by kernel_rfl) (fun _ _ _ h => h) (by rfl) (by assumption) ?_; simp only [Act.put, K.put3])
        (refine wpD_plain 11 (v := ?_) rfl (by kernel_rfl) (by kernel_rfl) (by kernel_rfl) (fun _ _ _ h => h) (by rfl) ?_ (by assumption) ?_; rotate_left; (intro _w; go_simp; try with_reducible rfl); simp only [Act.put, K.put3])
        (refine wpD_plain 12 (v := ?_) rfl (by kernel_rfl) (by kernel_rfl) (by kernel_rfl) (fun _ _ _ h => h) (by rfl) ?_ (by assumption) ?_; rotate_left; (intro _w; go_simp; try with_reducible rfl); simp only [Act.put, K.put3])
        (refine wpD_skip 13 rfl (by kernel_rfl) (by kernel_rfl) (by kernel_rfl) (fun _ _ _ h => h) (by rfl) (by assumption) ?_; simp only [Act.put, K.put3])
        (refine wpD_skip 14 rfl (by kernel_rfl) (by kernel_rfl) (by kernel_rfl) (fun _ _ _ h => h) (by rfl) (by assumption) ?_; simp only [Act.put, K.put3])
        (refine wpD_skip 15 rfl (by kernel_rfl) (by kernel_rfl) (by kernel_rfl) (fun _ _ _ h => h) (by rfl) (by assumption) ?_; simp only [Act.put, K.put3])
        (refine wpD_plain 16 (v := ?_) rfl (by kernel_rfl) (by kernel_rfl) (by kernel_rfl) (fun _ _ _ h => h) (by rfl) ?_ (by assumption) ?_; rotate_left; (intro _w; go_simp; try with_reducible rfl); simp only [Act.put, K.put3])
        clear hold
        refine wpD_done (by kernel_rfl) ?_ _
        go_wp2_with fail
        go_ret
        exact ⟨rfl, HFR4.out⟩
      | true =>
        (refine wpD_plain 6 (v := ?_) rfl (by kernel_rfl) (by kernel_rfl) (by kernel_rfl) (fun _ _ _ h => h) (by rfl) ?_ (by assumption) ?_; rotate_left; (intro _w; go_simp; try with_reducible rfl); simp only [Act.put, K.put3])
        (refine wpD_plain 7 (v := ?_) rfl (by kernel_rfl) (by kernel_rfl) (by kernel_rfl) (fun _ _ _ h => h) (by rfl) ?_ (by assumption) ?_; rotate_left; (intro _w; go_simp; try with_reducible rfl); simp only [Act.put, K.put3])
        (refine wpD_plain 8 (v := ?_) rfl (by kernel_rfl) (by kernel_rfl) (by kernel_rfl) (fun _ _ _ h => h) (by rfl) ?_ (by assumption) ?_; rotate_left; (intro _w; go_simp; try with_reducible rfl); simp only [Act.put, K.put3])
        (refine wpD_take 9 _ rfl (by kernel_rfl) (by kernel_rfl) (by kernel_rfl) (fun _ _ _ h => h) List.mem_cons_self (by rfl) (v := ?_) ?_ (by assumption) ?_; rotate_left; (intro _w _hw; go_simp; try with_reducible rfl); simp only [Act.put, K.put3])
        by_cases h1 : 1 ≤ t.syn
        case neg =>
          obtain rfl : R = false := by have h := HT2.out; rw [hq, decide_eq_false h1] at h; exact h.symm
          clear hq
          (refine wpD_plain 10 (v := (.bool true)) rfl (by kernel_rfl) (by kernel_rfl) (by kernel_rfl) (fun _ _ _ h => h) (by rfl) ?_ (by assumption) ?_; (intro _w; exact exec_lssI _ _ _ rfl t.syn 1 true (decide_eq_true (by omega)) rfl rfl _w); simp only [Act.put, K.put3])
          (refine wpD_plain 11 (v := ?_) rfl (by kernel_rfl) (by kernel_rfl) (by kernel_rfl) (fun _ _ _ h => h) (by rfl) ?_ (by assumption) ?_; rotate_left; (intro _w; go_simp; try with_reducible rfl); simp only [Act.put, K.put3])
          (refine wpD_plain 12 (v := ?_) rfl (by kernel_rfl) (by kernel_rfl) (by kernel_rfl) (fun _ _ _ h => h) (by rfl) ?_ (by assumption) ?_; rotate_left; (intro _w; go_simp; try with_reducible rfl); simp only [Act.put, K.put3])
          (refine wpD_skip 13 rfl (by kernel_rfl) (by kernel_rfl) (by kernel_rfl) (fun _ _ _ h => h) (by rfl) (by assumption) ?_; simp only [Act.put, K.put3])
          (refine wpD_skip 14 rfl (by kernel_rfl) (by kernel_rfl) (by kernel_rfl) (fun _ _ _ h => h) (by rfl) (by assumption) ?_; simp only [Act.put, K.put3])
          (refine wpD_skip 15 rfl (by kernel_rfl) (by kernel_rfl) (by kernel_rfl) (fun _ _ _ h => h) (by rfl) (by assumption) ?_; simp only [Act.put, K.put3])
          (refine wpD_plain 16 (v := ?_) rfl (by kernel_rfl) (by kernel_rfl) (by kernel_rfl) (fun _ _ _ h => h) (by rfl) ?_ (by assumption) ?_; rotate_left; (intro _w; go_simp; try with_reducible rfl); simp only [Act.put, K.put3])
          clear hold
          refine wpD_done (by kernel_rfl) ?_ _
          go_wp2_with fail
          go_ret
          exact ⟨rfl, HFR4.out⟩
        (refine wpD_plain 10 (v := (.bool false)) rfl (by kernel_rfl) (by kernel_rfl) (by kernel_rfl) (fun _ _ _ h => h) (by rfl) ?_ (by assumption) ?_; (intro _w; exact exec_lssI _ _ _ rfl t.syn 1 false (decide_eq_false (by omega)) rfl rfl _w); simp only [Act.put, K.put3])
        (refine wpD_plain 11 (v := ?_) rfl (by kernel_rfl) (by kernel_rfl) (by kernel_rfl) (fun _ _ _ h => h) (by rfl) ?_ (by assumption) ?_; rotate_left; (intro _w; go_simp; try with_reducible rfl); simp only [Act.put, K.put3])
        (refine wpD_plain 12 (v := ?_) rfl (by kernel_rfl) (by kernel_rfl) (by kernel_rfl) (fun _ _ _ h => h) (by rfl) ?_ (by assumption) ?_; rotate_left; (intro _w; go_simp; try with_reducible rfl); simp only [Act.put, K.put3])
        (refine wpD_plain 13 (v := ?_) rfl (by kernel_rfl) (by kernel_rfl) (by kernel_rfl) (fun _ _ _ h => h) (by rfl) ?_ (by assumption) ?_; rotate_left; (intro _w; go_simp; try with_reducible rfl); simp only [Act.put, K.put3])
        (refine wpD_take 14 _ rfl (by kernel_rfl) (by kernel_rfl) (by kernel_rfl) (fun _ _ _ h => h) (List.mem_cons_of_mem _ List.mem_cons_self) (by rfl) (v := ?_) ?_ (by assumption) ?_; rotate_left; (intro _w _hw; go_simp; try with_reducible rfl); simp only [Act.put, K.put3])
        by_cases h2 : t.syn ≤ 5
        case neg =>
          obtain rfl : R = false := by have h := HT2.out; rw [hq, decide_eq_false h2, Bool.and_false] at h; exact h.symm
          clear hq
          (refine wpD_plain 15 (v := (.bool true)) rfl (by kernel_rfl) (by kernel_rfl) (by kernel_rfl) (fun _ _ _ h => h) (by rfl) ?_ (by assumption) ?_; (intro _w; exact exec_gtrI _ _ _ rfl t.syn 5 true (decide_eq_true (by omega)) rfl rfl _w); simp only [Act.put, K.put3])
          (refine wpD_plain 16 (v := ?_) rfl (by kernel_rfl) (by kernel_rfl) (by kernel_rfl) (fun _ _ _ h => h) (by rfl) ?_ (by assumption) ?_; rotate_left; (intro _w; go_simp; try with_reducible rfl); simp only [Act.put, K.put3])
          clear hold
          refine wpD_done (by kernel_rfl) ?_ _
          go_wp2_with fail
          go_ret
          exact ⟨rfl, HFR4.out⟩
        have HT3 : Hid (rTy ((X.take (i + 1)).map (·.nm)) (X.drop (i + 1)) = R) := hid (by have h := HT2.out; rw [hq, decide_eq_true h1, decide_eq_true h2] at h; exact h)
        clear hq
        (refine wpD_plain 15 (v := (.bool false)) rfl (by kernel_rfl) (by kernel_rfl) (by kernel_rfl) (fun _ _ _ h => h) (by rfl) ?_ (by assumption) ?_; (intro _w; exact exec_gtrI _ _ _ rfl t.syn 5 false (decide_eq_false (by omega)) rfl rfl _w); simp only [Act.put, K.put3])
        (refine wpD_plain 16 (v := ?_) rfl (by kernel_rfl) (by kernel_rfl) (by kernel_rfl) (fun _ _ _ h => h) (by rfl) ?_ (by assumption) ?_; rotate_left; (intro _w; go_simp; try with_reducible rfl); simp only [Act.put, K.put3])
        clear hold
        refine wpD_done (by kernel_rfl) ?_ _
        clear h1 h2
        go_wp2_with fail
        refine ⟨⟨i + 1, by go_num, HLT.out, HFR4, HT3⟩, ?_⟩
        have := HLT.out
        simp [intOf]; omega
    · obtain rfl : i = n := by omega
      obtain rfl : R = true := by
        have h := HT.out
        rw [← HNN.out, List.drop_length] at h
        exact h.symm
      go_wp2_with fail
      go_ret
      exact ⟨rfl, HF.out⟩
end Go.Proofs.YtdkkpfeiaaffhaaGreatDoor.SC

namespace Go.Proofs.YtdkkpfeiaaffhaaGreatDoor.SC
set_option maxRecDepth 100000
open Go.RowKit K Go.Proofs.YtdkkpfeiaaffhaaGreatDoor.BE Go.Proofs.YtdkkpfeiaaffhaaGreatDoor.DN

theorem ls_str {S : Nat → Prop} {w : World} {v : Value} {l : List B} (h : LsIn S w v l) : Sl 1 (fun x c => ∃ v, c = [v] ∧ (v = .string (sb x) ∧ Sz x)) S w v l := Sl.mono h (fun _ h _ => h) fun x c _ h => ⟨_, h.1, rfl, h.2⟩
set_option maxHeartbeats 4000000 in
theorem noType_any {S : Nat → Prop} (n : B) (b : Nat) (vt vc : Value) (X : List Ty) (w : World) (hb : Blk w b 25 [vt, vc]) (h : TysIn S w vt X) (hz : Sz n) :
    Calls Tryz.prog 104 #[.string (sb n), .pointer (some ⟨b, 0, none⟩)] w fun e w' => e = .returned (.bool (fnd (X.map (·.nm)) n).isNone) ∧ Fr No w w' := by
  have hc : w.cell? ⟨b, 0, none⟩ = some vt := hb.cell 0
  have H := hid (findTy_any n vt X w h hz)
  rw [← idx_lt (fun x : Ty => x.nm) X n]
  obtain ⟨m, hm⟩ : ∃ m, idxI X (fun x => low x.nm == low n) = m := ⟨_, rfl⟩
  rw [hm] at H ⊢
  obtain ⟨a, cp, rfl, -, -⟩ := h.form
  generalize X.length = k at H hc hb
  clear h hz hm hb
  go_enter Tryz.func104, Tryz.ntmps104
  go_wp2_with fail
  refine H.out.mono ?_
  rintro e w1 ⟨rfl, f1⟩
  have HF := hid f1
  clear f1 hc
  go_wp2_with fail
  go_ret
  exact ⟨rfl, HF.out⟩
theorem has_not (tn l : List B) : (l.any fun m => (fnd tn m).isNone) = !has tn l := by
  unfold has
  induction l with
  | nil => rfl
  | cons a r ih =>
    rw [List.any_cons, List.all_cons, ih]
    cases fnd tn a <;> simp
theorem oneCl (c : Cl) {v1 v2 : Value} (h1 : v1.oneCell' = true) (h2 : v2.oneCell' = true) : ∀ v ∈ clV c v1 v2, v.oneCell' = true := by
  intro v hv
  simp only [clV, List.mem_cons, List.not_mem_nil, or_false] at hv
  rcases hv with rfl | rfl | rfl | rfl | rfl
  · rfl
  · rfl
  · rfl
  · exact h1
  · exact h2
set_option maxHeartbeats 16000000 in
theorem areRightClasses_any {S S2 : Nat → Prop} (vt vc : Value) (X : List Ty) (Y : List Cl) (w : World) (h : TysIn S w vt X) (hy : ClsIn S2 w vc Y) :
    Calls Tryz.prog 65 #[.agg #[vt, vc]] w fun e w' => e = .returned (.bool (rCl (X.map (·.nm)) [] Y)) ∧ Fr No w w' := by
  have HX := hid h; have HY := hid hy
  obtain ⟨a, cp, rfl, hcap, hl⟩ := hy.form
  obtain ⟨R, hR⟩ : ∃ R, rCl (X.map (·.nm)) [] Y = R := ⟨_, rfl⟩
  rw [hR]
  have HR : Hid (rCl (X.map (·.nm)) (Y.take 0) (Y.drop 0) = R) := hid hR
  obtain ⟨n, hn⟩ : ∃ n, Y.length = n := ⟨_, rfl⟩
  have HNN := hid hn
  rw [hn] at HY hcap hl ⊢
  have hni : (n : Int) ≤ 140737488351232 := by omega
  have hnc : (n : Int) ≤ cp := by omega
  clear h hy hR hn hcap hl
  go_enter Tryz.func65, Tryz.ntmps65
  go_wp2_with (first
    | ((with_reducible refine K.atO (.box 25 _) ?_); refine wpL_box rfl _ _ rfl _ rfl [vt, .slice a n cp] rfl ?_; intro w1 HB1 HF1 HS1; refine Hid.out ?_)
    | fail)
  obtain ⟨b, hb⟩ : ∃ b, w.heap.size = b := ⟨_, rfl⟩
  have HBB := hid hb
  rw [hb] at HB1 ⊢
  clear hb
  have s1 : w1.cell? ⟨b, 1, none⟩ = some (.slice a n cp) := HB1.out.cell 1
  refine hid ?_
  go_wp2_with fail
  go_loopw [11] (fun iv wr => ∃ (i : Nat), iv = .int .i64 i ∧ i ≤ n ∧ Hid (Fr No w1 wr) ∧ Hid (rCl (X.map (·.nm)) (Y.take i) (Y.drop i) = R)) (fun iv _ => n - (intOf iv).toNat)
  case atStart => exact ⟨0, rfl, Nat.zero_le _, hid (Fr.refl _ _), HR⟩
  case round =>
    clear s1
    obtain ⟨i, rfl, hi, HF, HT⟩ := hrel
    by_cases hlt : i < n
    · obtain ⟨c, hc⟩ : ∃ c, Y[i]? = some c := ⟨_, List.getElem?_eq_getElem (by rw [HNN.out]; exact hlt)⟩
      have hlti : (i : Int) < n := by omega
      have hi0 : (0 : Int) ≤ i := by omega
      have hicp : (i : Int) ≤ cp := by omega
      have HW : Hid (Fr No w wr) := hid (HF1.out.trans' HF.out)
      obtain ⟨g, o, cq, cs, e1, -, -, hr, -, hp⟩ := (ClsIn.fr (D := No) HY.out HW.out (fun _ _ _ e => e)).get hc
      rw [HNN.out] at e1
      simp only [Value.slice.injEq, true_and] at e1
      obtain ⟨rfl, rfl⟩ := e1
      obtain ⟨v1, v2, rfl, hz1, hz2, hv1, hv2, -⟩ := hp
      have HRR := hid hr; have HZ1 := hid hz1; have HZ2 := hid hz2; have HV1 := hid hv1; have HV2 := hid hv2
      have HONE : Hid (∀ v ∈ clV c v1 v2, v.oneCell' = true) := hid (oneCl c (by obtain ⟨a, cp, rfl, -⟩ := hv1.form; rfl) (by obtain ⟨a, cp, rfl, -⟩ := hv2.form; rfl))
      obtain ⟨hdrop, htake⟩ := drop_at hc
      have HT2 : Hid ((newN ((Y.take i).map (·.nm)) c.nm && (decide (0 ≤ c.kind) && decide (c.kind ≤ 2)) && supOk (Y.take i) c && has (X.map (·.nm)) c.must && has (X.map (·.nm)) c.may && rCl (X.map (·.nm)) (Y.take (i + 1)) (Y.drop (i + 1))) = R) := hid (by
        have h := HT.out
        rw [hdrop] at h
        rw [htake]
        exact h)
      have HLT := hid hlt
      have HSUB : Hid (∀ w', Fr No w w' → ClsIn S2 w' (.slice (some ⟨g, o, none⟩) i cp) (Y.take i)) := hid (fun w' hf => by
        have := Sl.take (ClsIn.fr (D := No) HY.out hf (fun _ _ _ e => e)) i (Nat.le_of_lt HLT.out)
        exact this)
      clear hr hz1 hz2 hv1 hv2 hc hdrop htake HT hi hlt
      go_wp2_with (first
        | ((with_reducible refine K.atO (.load 71 _) ?_); refine wpL_load rfl _ _ rfl g (o + i * 5) rfl (clV c v1 v2) _ HRR.out rfl rfl infoCl ?_)
        | ((with_reducible refine K.atO (.alloc 71) ?_); refine wpL_alloc rfl _ rfl _ zeroCl _ rfl ?_; intro w2 HB2 HF2 HS2)
        | ((with_reducible refine K.atO (.store 71 _ _) ?_); refine wpL_store rfl _ _ _ rfl wr.heap.size 0 (clV c v1 v2) rfl rfl 71 _ HB2.out (by simp [clV]) infoCl HONE.out ?_; intro w3 HB3 HF3 HS3; refine Hid.out ?_)
        | fail)
      have HFR3 : Hid (Fr No wr w3) := hid (HF2.out.trans HF3.out fun k e => .inr (by have e : k = wr.heap.size := e; omega))
      have HB13 : Hid (Blk w3 b 25 [vt, .slice (some ⟨g, o, none⟩) n cp]) := hid ((HB1.out.fr HF.out id).fr HFR3.out id)
      obtain ⟨b2, hb2⟩ : ∃ b2, wr.heap.size = b2 := ⟨_, rfl⟩
      rw [hb2] at HB3 ⊢
      have HBK : Hid (Blk w3 b2 71 (clV c v1 v2)) := hid HB3.out
      have HFW3 : Hid (Fr No w w3) := hid (HW.out.trans' HFR3.out)
      have HFWR3 : Hid (Fr No wr w3) := hid HFR3.out
      clear hb2 HB3 HB2 HF2 HF3 HS2 HS3 HFR3
      have s1 : w3.cell? ⟨b, 1, none⟩ = some (.slice (some ⟨g, o, none⟩) n cp) := HB13.out.cell 1
      have c0 : w3.cell? ⟨b2, 0, none⟩ = some (.string (sb c.nm)) := HBK.out.cell 0
      refine hid ?_
      go_wp2_with fail
      refine (isNewCl_any c.nm _ (Y.take i) w3 (HSUB.out _ HFW3.out) HZ1.out).mono ?_
      rintro e w4 ⟨rfl, f4⟩
      have HBK4 := hid (HBK.out.fr f4 id)
      have HB14 := hid (HB13.out.fr f4 id)
      have HFW4 := hid (HFW3.out.trans' f4)
      have HFWR4 := hid (HFWR3.out.trans' f4)
      clear f4 s1 c0 HBK HB13 HFW3
      cases hq : newN ((Y.take i).map (·.nm)) c.nm with
      | false =>
        obtain rfl : R = false := by have h := HT2.out; rw [hq] at h; exact h.symm
        clear hq
        go_wp2_with fail
        go_ret
        exact ⟨rfl, HFW4.out⟩
      | true =>
        have c1 : w4.cell? ⟨b2, 1, none⟩ = some (.int .i64 c.kind) := HBK4.out.cell 1
        by_cases h1 : 0 ≤ c.kind
        case neg =>
          obtain rfl : R = false := by have h := HT2.out; rw [hq, decide_eq_false h1] at h; exact h.symm
          clear hq
          have h1' : c.kind < 0 := by omega
          clear h1
          go_wp2_with fail
          go_ret
          exact ⟨rfl, HFW4.out⟩
        by_cases h2 : c.kind ≤ 2
        case neg =>
          obtain rfl : R = false := by have h := HT2.out; rw [hq, decide_eq_false h2, Bool.and_false] at h; exact h.symm
          clear hq
          have h2' : 2 < c.kind := by omega
          clear h2
          go_wp2_with fail
          go_ret
          exact ⟨rfl, HFW4.out⟩
        have HT3 : Hid ((supOk (Y.take i) c && has (X.map (·.nm)) c.must && has (X.map (·.nm)) c.may && rCl (X.map (·.nm)) (Y.take (i + 1)) (Y.drop (i + 1))) = R) := hid (by have h := HT2.out; rw [hq, decide_eq_true h1, decide_eq_true h2] at h; exact h)
        have HR4 : Hid (w4.rangeAt b2 0 (clV c v1 v2)) := hid (HBK4.out.range 0 _ (by rw [List.drop_zero, List.take_length]))
        have g1 : decide (c.kind < 0) = false := decide_eq_false (by omega)
        have g2 : decide (2 < c.kind) = false := decide_eq_false (by omega)
        clear hq HT2 h1 h2
        go_wp2_with (first
          | ((with_reducible refine K.atO (.load 71 _) ?_); refine wpL_valZ rfl (.agg (clV c v1 v2).toArray) (exec_load _ _ rfl b2 0 rfl (clV c v1 v2) _ rfl rfl infoCl w4 HR4.out) ?_)
          | fail)
        refine (isRightSup_any c v1 v2 _ (Y.take i) w4 (HSUB.out _ HFW4.out) HZ2.out).mono ?_
        rintro e w5 ⟨rfl, f5⟩
        have HBK5 := hid (HBK4.out.fr f5 id)
        have HB15 := hid (HB14.out.fr f5 id)
        have HFW5 := hid (HFW4.out.trans' f5)
        have HFWR5 := hid (HFWR4.out.trans' f5)
        clear f5 c1 HBK4 HB14 HFW4 HR4 g1 g2
        cases hq : supOk (Y.take i) c with
        | false =>
          obtain rfl : R = false := by have h := HT3.out; rw [hq] at h; exact h.symm
          clear hq
          go_wp2_with fail
          go_ret
          exact ⟨rfl, HFW5.out⟩
        | true =>
          have HT4 : Hid ((has (X.map (·.nm)) c.must && has (X.map (·.nm)) c.may && rCl (X.map (·.nm)) (Y.take (i + 1)) (Y.drop (i + 1))) = R) := hid (by have h := HT3.out; rw [hq] at h; exact h)
          have c3 : w5.cell? ⟨b2, 3, none⟩ = some v1 := HBK5.out.cell 3
          have HC := hid (fun (v0 : Value) (l : List B) (w6 : World) (hf : Fr No w w6) (hb6 : Blk w6 b 25 [vt, .slice (some ⟨g, o, none⟩) n cp]) (hl : LsIn S2 w6 v0 l) =>
            containsS (α := B) 104 [.pointer (some ⟨b, 0, none⟩)] (fun m => (fnd (X.map (·.nm)) m).isNone) (fun _ x v => v = .string (sb x) ∧ Sz x) No (fun w' => Fr No w6 w') S2 v0 l w6 (fun _ _ _ _ h _ => h) (fun _ _ _ e => e) (Fr.refl _ _) (ls_str hl) (fun _ _ => by kernel_rfl)
              (fun x _ cv wv hp hi _ => by
                obtain ⟨rfl, hz⟩ := hp
                exact (noType_any x b vt _ X wv (hb6.fr hi id) (TysIn.fr (D := No) HX.out (hf.trans' hi) (fun _ _ _ e => e)) hz).mono fun e w' ⟨h1, h2⟩ => ⟨h1, hi.trans' h2, h2⟩))
          have HM := hid (HC.out v1 c.must w5 HFW5.out HB15.out (LsIn.fr (D := No) HV1.out HFWR5.out (fun _ _ _ e => e)))
          rw [has_not] at HM
          clear hq
          go_wp2_with fail
          refine HM.out.mono ?_
          rintro e w6 ⟨rfl, -, f6⟩
          have HBK6 := hid (HBK5.out.fr f6 id)
          have HB16 := hid (HB15.out.fr f6 id)
          have HFW6 := hid (HFW5.out.trans' f6)
          have HFWR6 := hid (HFWR5.out.trans' f6)
          clear f6 c3 HBK5 HB15 HFW5 HFWR5 HM
          cases hq : has (X.map (·.nm)) c.must with
          | false =>
            obtain rfl : R = false := by have h := HT4.out; rw [hq] at h; exact h.symm
            clear hq
            go_wp2_with fail
            go_ret
            exact ⟨rfl, HFW6.out⟩
          | true =>
            have HT5 : Hid ((has (X.map (·.nm)) c.may && rCl (X.map (·.nm)) (Y.take (i + 1)) (Y.drop (i + 1))) = R) := hid (by have h := HT4.out; rw [hq] at h; exact h)
            have c4 : w6.cell? ⟨b2, 4, none⟩ = some v2 := HBK6.out.cell 4
            have HM := hid (HC.out v2 c.may w6 HFW6.out HB16.out (LsIn.fr (D := No) HV2.out HFWR6.out (fun _ _ _ e => e)))
            rw [has_not] at HM
            clear hq
            go_wp2_with fail
            refine HM.out.mono ?_
            rintro e w7 ⟨rfl, -, f7⟩
            have HFW7 := hid (HFW6.out.trans' f7)
            have HF7 := hid (HF.out.trans' (HFWR6.out.trans' f7))
            clear f7 c4 HM
            cases hq : has (X.map (·.nm)) c.may with
            | false =>
              obtain rfl : R = false := by have h := HT5.out; rw [hq] at h; exact h.symm
              clear hq
              go_wp2_with fail
              go_ret
              exact ⟨rfl, HFW7.out⟩
            | true =>
              have HT6 : Hid (rCl (X.map (·.nm)) (Y.take (i + 1)) (Y.drop (i + 1)) = R) := hid (by have h := HT5.out; rw [hq] at h; exact h)
              clear hq
              go_wp2_with fail
              refine ⟨⟨i + 1, by go_num, HLT.out, HF7, HT6⟩, ?_⟩
              have := HLT.out
              simp [intOf]; omega
    · obtain rfl : i = n := by omega
      obtain rfl : R = true := by
        have h := HT.out
        rw [← HNN.out, List.drop_length] at h
        exact h.symm
      go_wp2_with fail
      go_ret
      exact ⟨rfl, HF1.out.trans' HF.out⟩
set_option maxHeartbeats 8000000 in
theorem isRight_any {S S2 : Nat → Prop} (vt vc : Value) (s : Sch) (w : World) (h : TysIn S w vt s.tys) (hy : ClsIn S2 w vc s.cls) :
    Calls Tryz.prog 33 #[.agg #[vt, vc]] w fun e w' => e = .returned (.bool (okS s)) ∧ Fr No w w' := by
  have HX := hid h; have HY := hid hy
  have HA := hid (fun w' (hf : Fr No w w') => areRightTypes_any vt s.tys w' (TysIn.fr (D := No) h hf (fun _ _ _ e => e)))
  have HC := hid (fun w' (hf : Fr No w w') => areRightClasses_any vt vc s.tys s.cls w' (TysIn.fr (D := No) h hf (fun _ _ _ e => e)) (ClsIn.fr (D := No) hy hf (fun _ _ _ e => e)))
  obtain ⟨a, cp, rfl, hcap, hl⟩ := h.form
  obtain ⟨a2, cp2, rfl, hcap2, hl2⟩ := hy.form
  obtain ⟨R, hR⟩ : ∃ R, okS s = R := ⟨_, rfl⟩
  rw [hR]
  have HR := hid hR
  obtain ⟨n, hn⟩ : ∃ n, s.tys.length = n := ⟨_, rfl⟩
  obtain ⟨m, hm⟩ : ∃ m, s.cls.length = m := ⟨_, rfl⟩
  have HNN := hid hn; have HMM := hid hm
  rw [hn] at HX HA HC hcap hl ⊢
  rw [hm] at HY HC hcap2 hl2 ⊢
  have hni : (n : Int) ≤ 140737488351232 := by omega
  have hmi : (m : Int) ≤ 140737488351232 := by omega
  have hnc : (n : Int) ≤ cp := by omega
  clear h hy hR hn hm hcap hl hcap2 hl2
  go_enter Tryz.func33, Tryz.ntmps33
  go_wp2_with (first
    | ((with_reducible refine K.atO (.box 25 _) ?_); refine wpL_box rfl _ _ rfl _ rfl [.slice a n cp, .slice a2 m cp2] rfl ?_; intro w1 HB1 HF1 HS1; refine Hid.out ?_)
    | fail)
  obtain ⟨b, hb⟩ : ∃ b, w.heap.size = b := ⟨_, rfl⟩
  rw [hb] at HB1 ⊢
  clear hb
  have s0 : w1.cell? ⟨b, 0, none⟩ = some (.slice a n cp) := HB1.out.cell 0
  have s1 : w1.cell? ⟨b, 1, none⟩ = some (.slice a2 m cp2) := HB1.out.cell 1
  refine hid ?_
  by_cases h0 : n = 0
  · obtain rfl : R = false := by
      have h := HR.out
      unfold okS at h
      rw [decide_eq_false (show ¬ 1 ≤ s.tys.length by rw [HNN.out]; omega)] at h
      exact h.symm
    subst h0
    go_wp2_with fail
    go_ret
    exact ⟨rfl, HF1.out⟩
  have h0b : ((n : Int) == 0) = false := by rw [beq_eq_false_iff_ne]; omega
  by_cases h1 : 40 < n
  · obtain rfl : R = false := by
      have h := HR.out
      unfold okS at h
      rw [decide_eq_false (show ¬ s.tys.length ≤ 40 by rw [HNN.out]; omega), Bool.and_false] at h
      exact h.symm
    have h1i : (40 : Int) < n := by omega
    go_wp2_with fail
    go_ret
    exact ⟨rfl, HF1.out⟩
  have h1b : decide ((40 : Int) < n) = false := decide_eq_false (by omega)
  by_cases h2 : 20 < m
  · obtain rfl : R = false := by
      have h := HR.out
      unfold okS at h
      rw [decide_eq_false (show ¬ s.cls.length ≤ 20 by rw [HMM.out]; omega), Bool.and_false] at h
      exact h.symm
    have h2i : (20 : Int) < m := by omega
    go_wp2_with fail
    go_ret
    exact ⟨rfl, HF1.out⟩
  have h2b : decide ((20 : Int) < m) = false := decide_eq_false (by omega)
  have hpos : 0 < s.tys.length := by rw [HNN.out]; omega
  obtain ⟨t, r, htr⟩ : ∃ t r, s.tys = t :: r := by
    cases hs : s.tys with
    | nil => rw [hs] at hpos; simp at hpos
    | cons t r => exact ⟨t, r, rfl⟩
  have HR2 : Hid ((rFirst t && rTy [] s.tys && rCl s.tn [] s.cls) = R) := hid (by
    have h := HR.out
    unfold okS at h
    rw [decide_eq_true (show 1 ≤ s.tys.length from hpos), decide_eq_true (show s.tys.length ≤ 40 by rw [HNN.out]; omega), decide_eq_true (show s.cls.length ≤ 20 by rw [HMM.out]; omega), htr] at h
    rw [htr]
    exact h)
  obtain ⟨g, o, cq, cs, e1, -, -, hr, -, hp⟩ := (TysIn.fr (D := No) HX.out HF1.out (fun _ _ _ e => e)).get (j := 0) (x := t) (by rw [htr]; rfl)
  obtain ⟨rfl, hz⟩ := hp
  rw [HNN.out] at e1
  simp only [Value.slice.injEq, true_and] at e1
  obtain ⟨rfl, rfl⟩ := e1
  rw [Nat.zero_mul, Nat.add_zero] at hr
  have HRR := hid hr; have HZ := hid hz
  have h0i : (0 : Int) < n := by omega
  have h0n : 0 < n := by omega
  clear h0 h1 h2 hpos htr hr hz
  go_wp2_with (first
    | ((with_reducible refine K.atO (.load 62 _) ?_); refine wpL_load rfl _ _ rfl g o rfl (tyV t) _ HRR.out rfl rfl infoTy ?_)
    | fail)
  refine (isRightFirst_any t HZ.out w1).mono ?_
  rintro e w2 ⟨rfl, f2⟩
  have HB2 := hid (HB1.out.fr f2 id)
  have HF2 := hid (HF1.out.trans' f2)
  clear f2 s0 s1 h0b h1b h2b h0i h0n
  cases hq : rFirst t with
  | false =>
    obtain rfl : R = false := by have h := HR2.out; rw [hq] at h; exact h.symm
    clear hq
    go_wp2_with fail
    go_ret
    exact ⟨rfl, HF2.out⟩
  | true =>
    have HR3 : Hid ((rTy [] s.tys && rCl s.tn [] s.cls) = R) := hid (by have h := HR2.out; rw [hq] at h; exact h)
    have s0 : w2.cell? ⟨b, 0, none⟩ = some (.slice (some ⟨g, o, none⟩) n cp) := HB2.out.cell 0
    clear hq
    go_wp2_with fail
    refine (HA.out w2 HF2.out).mono ?_
    rintro e w3 ⟨rfl, f3⟩
    have HB3 := hid (HB2.out.fr f3 id)
    have HF3 := hid (HF2.out.trans' f3)
    clear f3 s0
    cases hq : rTy [] s.tys with
    | false =>
      obtain rfl : R = false := by have h := HR3.out; rw [hq] at h; exact h.symm
      clear hq
      go_wp2_with fail
      go_ret
      exact ⟨rfl, HF3.out⟩
    | true =>
      have HR4 : Hid (rCl s.tn [] s.cls = R) := hid (by have h := HR3.out; rw [hq] at h; exact h)
      have HRG : Hid (w3.rangeAt b 0 [.slice (some ⟨g, o, none⟩) n cp, .slice a2 m cp2]) := hid (HB3.out.range 0 _ rfl)
      clear hq
      go_wp2_with (first
        | ((with_reducible refine K.atO (.load 25 _) ?_); refine wpL_valZ rfl (.agg #[.slice (some ⟨g, o, none⟩) n cp, .slice a2 m cp2]) (exec_load _ _ rfl b 0 rfl [.slice (some ⟨g, o, none⟩) n cp, .slice a2 m cp2] _ rfl rfl infoSc w3 HRG.out) ?_)
        | fail)
      refine (HC.out w3 HF3.out).mono ?_
      rintro e w4 ⟨rfl, f4⟩
      have HF4 := hid (HF3.out.trans' f4)
      have e4 : rCl (s.tys.map (·.nm)) [] s.cls = R := HR4.out
      rw [e4]
      clear f4 e4
      go_wp2_with fail
      go_ret
      exact ⟨rfl, HF4.out⟩
end Go.Proofs.YtdkkpfeiaaffhaaGreatDoor.SC

namespace Go.Proofs.YtdkkpfeiaaffhaaGreatDoor.SC
set_option maxRecDepth 100000
open Go.RowKit K Go.Proofs.YtdkkpfeiaaffhaaGreatDoor.BE Go.Proofs.YtdkkpfeiaaffhaaGreatDoor.DN

theorem info_ex {P : Program} {t : TypeId} {z : Value} {s b : Nat} (h : (P.info? t).map (fun i => (i.zero, i.size, i.bytes)) = some (some z, s, b)) : ∃ i, P.info? t = some i ∧ i.zero = some z ∧ i.size = s ∧ i.bytes = b := by
  cases hi : P.info? t with
  | none => rw [hi] at h; cases h
  | some i =>
    rw [hi] at h
    simp only [Option.map_some, Option.some.injEq, Prod.mk.injEq] at h
    exact ⟨i, rfl, h.1, h.2.1, h.2.2⟩
theorem exec_eqNil {P : Program} {op : Oper} {a : Act} (t e : TypeId) (x y : Operand) (u : TypeId) (ho : op.op = .binOp .eql t x y u) (hu : P.underlying t = some (.slice e)) (ad : Option Addr) (n c : Nat) (hx : a.eval x = .slice ad n c) (hy : a.eval y = .slice none 0 0) (w : World) :
    (execOp a.eval op).run P w = .ok (.value (.bool ad.isNone)) w := by
  unfold execOp
  simp only [ho, hx, hy]
  simp [eqGuard, binOp, run_equal_slice_nil w t e ad n c hu, Result.andThen]
theorem infoTy3 : (Tryz.prog.info? 62).map (fun i => (i.zero, i.size, i.bytes)) = some (some (.agg #[.string ⟨#[]⟩, .int .i64 0, .bool false, .bool false, .bool false, .bool false]), 6, 32) := by kernel_rfl
theorem infoCl3 : (Tryz.prog.info? 71).map (fun i => (i.zero, i.size, i.bytes)) = some (some (.agg #[.string ⟨#[]⟩, .int .i64 0, .string ⟨#[]⟩, .slice none 0 0, .slice none 0 0]), 5, 88) := by kernel_rfl
/-- A row's cells, as append takes them. -/
theorem slCells {α : Type} {k : Nat} {p : α → List Value → Prop} {S : Nat → Prop} {w : World} {a : Option Addr} {n c : Nat} {xs : List α} (h : Sl k p S w (.slice a n c) xs) :
    ∃ L : List (List Value), L.length = n ∧ (∀ c ∈ L, c.length = k) ∧ (∀ (j : Nat) (x : α) (c : List Value), xs[j]? = some x → L[j]? = some c → p x c) ∧ (n = 0 ∨ ∃ g o, a = some ⟨g, o, none⟩ ∧ g < w.heap.size ∧ w.rangeAt g o L.flatten) := by
  obtain ⟨a', c', e, h2, h3, h4⟩ := h
  cases e
  rcases h4 with rfl | ⟨g, o, L, rfl, hS, hg, hr, hL, hc, hp⟩
  · exact ⟨[], rfl, (fun c hc => by cases hc), (fun j x c hx hc => by simp at hx), .inl rfl⟩
  · exact ⟨L, hL, hc, hp, .inr ⟨g, o, rfl, hg, hr⟩⟩
set_option maxHeartbeats 8000000 in
theorem cloneS_any {S : Nat → Prop} (v : Value) (l : List B) (w : World) (h : LsIn S w v l) (hb : l.length * 16 ≤ 140737488351232) :
    Calls Tryz.prog 66 #[v] w fun e w' => ∃ v', e = .returned v' ∧ LsIn (fun i => w.heap.size ≤ i) w' v' l ∧ Fr No w w' := by
  obtain ⟨a, cp, rfl, hcap, hl⟩ := h.form
  obtain ⟨L, hLl, hLk, hLp, hLr⟩ := slCells h
  have HL := hid (show L.length = l.length ∧ (∀ c ∈ L, c.length = 1) ∧ (∀ (j : Nat) (x : B) (c : List Value), l[j]? = some x → L[j]? = some c → StC x c) from ⟨hLl, hLk, hLp⟩)
  have HFL : Hid (L.flatten.length = l.length * 1) := hid (by rw [flat_length L hLk, hLl])
  have HONE : Hid (∀ v ∈ L.flatten, v.oneCell' = true) := hid (fun v hv => by
    obtain ⟨c, hc, hvc⟩ := List.mem_flatten.1 hv
    obtain ⟨j, hj, rfl⟩ := List.mem_iff_getElem.1 hc
    have hjl : j < l.length := by omega
    have hp := hLp j _ _ (List.getElem?_eq_getElem hjl) (List.getElem?_eq_getElem hj)
    rw [hp.1] at hvc
    exact (by rw [List.mem_singleton.1 hvc]; rfl))
  obtain ⟨V, hV⟩ : ∃ V, L.flatten = V := ⟨_, rfl⟩
  have HV := hid hV
  rw [hV] at hLr HFL HONE
  have HR := hid hLr
  obtain ⟨n, hn⟩ : ∃ n, l.length = n := ⟨_, rfl⟩
  have HNN := hid hn
  rw [hn] at HR HL HFL hcap hl hb ⊢
  obtain ⟨ic, hic, hzc, hsc, hbc⟩ := info_ex infoS3
  have IC := hid hic; have ZC := hid hzc; have SC := hid hsc; have BC := hid hbc
  have HB := hid (show n * 16 ≤ 140737488351232 ∧ n ≤ 140737488351232 from ⟨hb, hl⟩)
  clear h hLl hLk hLp hV hLr hn hcap hl hb hic hzc hsc hbc
  cases a with
  | none =>
    have hn0 : n = 0 := by
      rcases HR.out with h | ⟨g, o, e, -⟩
      · exact h
      · cases e
    subst hn0
    obtain rfl : l = [] := List.eq_nil_of_length_eq_zero HNN.out
    clear HNN HL HFL HONE HV HR
    go_enter Tryz.func66, Tryz.ntmps66
    go_wp2_with (first
      | ((with_reducible refine K.atO (.binOp .eql 44 _ _ _) ?_); refine wpL_valZ rfl (.bool true) (exec_eqNil _ 9 _ _ _ rfl Tryz.underlying44 none 0 cp rfl rfl w) ?_)
      | fail)
    go_ret
    exact ⟨_, rfl, ⟨none, 0, rfl, Nat.le_refl _, by simp, .inl rfl⟩, Fr.refl _ _⟩
  | some ad =>
    go_enter Tryz.func66, Tryz.ntmps66
    go_wp2_with (first
      | ((with_reducible refine K.atO (.binOp .eql 44 _ _ _) ?_); refine wpL_valZ rfl (.bool false) (exec_eqNil _ 9 _ _ _ rfl Tryz.underlying44 (some ad) n cp rfl rfl w) ?_)
      | ((with_reducible refine K.atO (.buildSlice 44 _ _) ?_); refine wpL_buildNone rfl 44 9 rfl (fun _ => by kernel_rfl) ?_; intro w2 HB2 HF2 HS2)
      | ((with_reducible refine K.atO (.call { callee := .builtin .append, args := _, argTypes := _ }) ?_); refine wpL_appendNew rfl _ _ 44 rfl w.heap.size 9 ic _ 1 16 Tryz.underlying44 IC.out ZC.out SC.out BC.out rfl (by decide) (.slice (some ⟨w.heap.size, 0, none⟩) 0 0) rfl (HB2.out.own (Nat.le_refl _) rfl (Nat.le_refl _) (by unfold maxLen; omega) rfl rfl) (some ad) n cp V rfl HFL.out (HR.out.imp id (fun ⟨g, o, e, hg, hr⟩ => ⟨ad, rfl, fun j u hj => by rw [Option.some.inj e, Addr.add_mid]; exact (HF2.out.range hr id) j u hj⟩)) HONE.out (by unfold maxLen; have := HB.out; omega) (by have := HB.out; omega) HF2.out.size ?_; intro a3 c3 w3 HO3 HG3 HA3)
      | fail)
    go_ret
    refine ⟨_, rfl, ?_, HF2.out.grown HG3.out (fun k e => .inr (by cases e; exact Nat.le_refl _))⟩
    exact own_sl HO3.out L HV.out HNN.out HL.out.1 HL.out.2.1 HL.out.2.2 HB.out.2
set_option maxHeartbeats 8000000 in
theorem cloneTy_any {S : Nat → Prop} (v : Value) (l : List Ty) (w : World) (h : TysIn S w v l) (hb : l.length * 32 ≤ 140737488351232) :
    Calls Tryz.prog 34 #[v] w fun e w' => ∃ v', e = .returned v' ∧ TysIn (fun i => w.heap.size ≤ i) w' v' l ∧ Fr No w w' := by
  obtain ⟨a, cp, rfl, hcap, hl⟩ := h.form
  obtain ⟨L, hLl, hLk, hLp, hLr⟩ := slCells h
  have HL := hid (show L.length = l.length ∧ (∀ c ∈ L, c.length = 6) ∧ (∀ (j : Nat) (x : Ty) (c : List Value), l[j]? = some x → L[j]? = some c → TyC x c) from ⟨hLl, hLk, hLp⟩)
  have HFL : Hid (L.flatten.length = l.length * 6) := hid (by rw [flat_length L hLk, hLl])
  have HONE : Hid (∀ v ∈ L.flatten, v.oneCell' = true) := hid (fun v hv => by
    obtain ⟨c, hc, hvc⟩ := List.mem_flatten.1 hv
    obtain ⟨j, hj, rfl⟩ := List.mem_iff_getElem.1 hc
    have hjl : j < l.length := by omega
    have hp := hLp j _ _ (List.getElem?_eq_getElem hjl) (List.getElem?_eq_getElem hj)
    rw [hp.1] at hvc
    exact oneTy _ v hvc)
  obtain ⟨V, hV⟩ : ∃ V, L.flatten = V := ⟨_, rfl⟩
  have HV := hid hV
  rw [hV] at hLr HFL HONE
  have HR := hid hLr
  obtain ⟨n, hn⟩ : ∃ n, l.length = n := ⟨_, rfl⟩
  have HNN := hid hn
  rw [hn] at HR HL HFL hcap hl hb ⊢
  obtain ⟨ic, hic, hzc, hsc, hbc⟩ := info_ex infoTy3
  have IC := hid hic; have ZC := hid hzc; have SC := hid hsc; have BC := hid hbc
  have HB := hid (show n * 32 ≤ 140737488351232 ∧ n ≤ 140737488351232 from ⟨hb, hl⟩)
  clear h hLl hLk hLp hV hLr hn hcap hl hb hic hzc hsc hbc
  cases a with
  | none =>
    have hn0 : n = 0 := by
      rcases HR.out with h | ⟨g, o, e, -⟩
      · exact h
      · cases e
    subst hn0
    obtain rfl : l = [] := List.eq_nil_of_length_eq_zero HNN.out
    clear HNN HL HFL HONE HV HR
    go_enter Tryz.func34, Tryz.ntmps34
    go_wp2_with (first
      | ((with_reducible refine K.atO (.binOp .eql 22 _ _ _) ?_); refine wpL_valZ rfl (.bool true) (exec_eqNil _ 62 _ _ _ rfl Tryz.underlying22 none 0 cp rfl rfl w) ?_)
      | fail)
    go_ret
    exact ⟨_, rfl, ⟨none, 0, rfl, Nat.le_refl _, by simp, .inl rfl⟩, Fr.refl _ _⟩
  | some ad =>
    go_enter Tryz.func34, Tryz.ntmps34
    go_wp2_with (first
      | ((with_reducible refine K.atO (.binOp .eql 22 _ _ _) ?_); refine wpL_valZ rfl (.bool false) (exec_eqNil _ 62 _ _ _ rfl Tryz.underlying22 (some ad) n cp rfl rfl w) ?_)
      | ((with_reducible refine K.atO (.buildSlice 22 _ _) ?_); refine wpL_buildNone rfl 22 62 rfl (fun _ => by kernel_rfl) ?_; intro w2 HB2 HF2 HS2)
      | ((with_reducible refine K.atO (.call { callee := .builtin .append, args := _, argTypes := _ }) ?_); refine wpL_appendNew rfl _ _ 22 rfl w.heap.size 62 ic _ 6 32 Tryz.underlying22 IC.out ZC.out SC.out BC.out rfl (by decide) (.slice (some ⟨w.heap.size, 0, none⟩) 0 0) rfl (HB2.out.own (Nat.le_refl _) rfl (Nat.le_refl _) (by unfold maxLen; omega) rfl rfl) (some ad) n cp V rfl HFL.out (HR.out.imp id (fun ⟨g, o, e, hg, hr⟩ => ⟨ad, rfl, fun j u hj => by rw [Option.some.inj e, Addr.add_mid]; exact (HF2.out.range hr id) j u hj⟩)) HONE.out (by unfold maxLen; have := HB.out; omega) (by have := HB.out; omega) HF2.out.size ?_; intro a3 c3 w3 HO3 HG3 HA3)
      | fail)
    go_ret
    refine ⟨_, rfl, ?_, HF2.out.grown HG3.out (fun k e => .inr (by cases e; exact Nat.le_refl _))⟩
    exact own_sl HO3.out L HV.out HNN.out HL.out.1 HL.out.2.1 HL.out.2.2 HB.out.2
theorem wp_setV {P : Program} {op : Oper} {a : Act} {w : World} {K : Act → World → Prop} {Q : Exit → Act → World → Prop} (ty : TypeId) (x y : Operand) (ho : op.op = .store ty x y) (b o : Nat) (v : Value) (hx : a.eval x = .pointer (some ⟨b, o, none⟩)) (hy : a.eval y = v) (hv : v.cells = #[v]) (h1 : v.oneCell' = true)
    (t : TypeId) (cs : List Value) (hB : Blk w b t cs) (hle : o < cs.length) (hi : (P.info? ty).map (·.size) = some 1)
    (h : ∀ w', Hid (Blk w' b t (cs.set o v)) → Hid (Fr (fun k => k = b) w w') → Hid (w'.heap.size = w.heap.size) → K (a.put op.dst undef) w') : op.wp P a w K Q :=
  wp_storeV ty x y ho b o v [v] hx hy (by rw [hv]) t cs hB (by simp; omega) hi (by simpa using h1) fun w' h2 h3 h4 => h w' (by
    rw [← spl_nil (cs.set o v) (o + 1), spl_cons _ _ _ _ hle]; exact h2) h3 h4
set_option maxHeartbeats 8000000 in
theorem copied_any {S : Nat → Prop} (c : Cl) (v1 v2 : Value) (w : World) (h1 : LsIn S w v1 c.must) (h2 : LsIn S w v2 c.may) (hb : LB c) :
    Calls Tryz.prog 35 #[.agg (clV c v1 v2).toArray] w fun e w' => ∃ u1 u2, e = .returned (.agg (clV c u1 u2).toArray) ∧ LsIn (fun i => w.heap.size ≤ i) w' u1 c.must ∧ LsIn (fun i => w.heap.size ≤ i) w' u2 c.may ∧ Fr No w w' := by
  have H1 := hid (fun w' (hf : Fr No w w') => cloneS_any v1 c.must w' (LsIn.fr (D := No) h1 hf (fun _ _ _ e => e)) hb.1)
  have H2 := hid (fun w' (hf : Fr No w w') => cloneS_any v2 c.may w' (LsIn.fr (D := No) h2 hf (fun _ _ _ e => e)) hb.2)
  obtain ⟨a1, c1, e1, -⟩ := h1.form
  obtain ⟨a2, c2, e2, -⟩ := h2.form
  obtain ⟨n1, hn1⟩ : ∃ n, c.must.length = n := ⟨_, rfl⟩
  obtain ⟨n2, hn2⟩ : ∃ n, c.may.length = n := ⟨_, rfl⟩
  rw [hn1] at e1; rw [hn2] at e2
  subst e1 e2
  clear h1 h2 hb hn1 hn2
  go_enter Tryz.func35, Tryz.ntmps35
  go_wp2_with (first
    | ((with_reducible refine K.atO (.box 71 _) ?_); refine wpL_box rfl _ _ rfl _ rfl (clV c (.slice a1 n1 c1) (.slice a2 n2 c2)) rfl ?_; intro w1 HB1 HF1 HS1)
    | ((with_reducible refine K.atO (.alloc 71) ?_); refine wpL_alloc rfl _ rfl _ zeroCl _ rfl ?_; intro w2 HB2 HF2 HS2)
    | fail)
  obtain ⟨g, hg⟩ : ∃ g, w.heap.size = g := ⟨_, rfl⟩
  obtain ⟨r, hr⟩ : ∃ r, w1.heap.size = r := ⟨_, rfl⟩
  have HG := hid (show g < r ∧ w.heap.size = g from ⟨by have := HS1.out; omega, hg⟩)
  rw [hg] at HB1 ⊢
  rw [hr] at HB2 ⊢
  have HBg := hid (HB1.out.fr HF2.out id)
  have HFr2 := hid (HF1.out.trans' HF2.out)
  have HL2 := hid (show w2.heap.size = r + 1 by have := HS2.out; omega)
  clear hg hr HB1
  have d1 : w2.cell? ⟨g, 3, none⟩ = some (.slice a1 n1 c1) := HBg.out.cell 3
  have d2 : w2.cell? ⟨g, 4, none⟩ = some (.slice a2 n2 c2) := HBg.out.cell 4
  have hold : Facts.hold [(1, fun w' => w'.cell? ⟨g, 3, none⟩ = some (.slice a1 n1 c1)), (4, fun w' => w'.cell? ⟨g, 4, none⟩ = some (.slice a2 n2 c2))] w2.drew := Facts.cons_hold d1 (Facts.cons_hold d2 (Facts.nil_hold _))
  refine wpD_region hold (by kernel_rfl) 10 rfl ?_
  (refine wpD_plain 0 (v := ?_) rfl (by kernel_rfl) (by kernel_rfl) (by kernel_rfl) (fun _ _ _ h => h) (by rfl) ?_ (by assumption) ?_; rotate_left; (intro _w; go_simp; try with_reducible rfl); simp only [Act.put, K.put3])
  (refine wpD_plain 3 (v := ?_) rfl (by kernel_rfl) (by kernel_rfl) (by kernel_rfl) (fun _ _ _ h => h) (by rfl) ?_ (by assumption) ?_; rotate_left; (intro _w; go_simp; try with_reducible rfl); simp only [Act.put, K.put3])
  (refine wpD_take 1 _ rfl (by kernel_rfl) (by kernel_rfl) (by kernel_rfl) (fun _ _ _ h => h) List.mem_cons_self (by rfl) (v := ?_) ?_ (by assumption) ?_; rotate_left; (intro _w _hw; go_simp; try with_reducible rfl); simp only [Act.put, K.put3])
  (refine wpD_take 4 _ rfl (by kernel_rfl) (by kernel_rfl) (by kernel_rfl) (fun _ _ _ h => h) (List.mem_cons_of_mem _ List.mem_cons_self) (by rfl) (v := ?_) ?_ (by assumption) ?_; rotate_left; (intro _w _hw; go_simp; try with_reducible rfl); simp only [Act.put, K.put3])
  clear hold
  refine wpD_only 2 [(4, fun w' => w'.cell? ⟨g, 4, none⟩ = some (.slice a2 n2 c2))] rfl (by kernel_rfl) (by kernel_rfl) (by rfl) (fun K2 hK2 => ?_)
  refine wp_call _ _ _ rfl 66 [] rfl (fun vs w => by kernel_rfl) [.slice a1 n1 c1] (by rfl) ?_
  refine (H1.out w2.drew HFr2.out.drew).mono ?_
  rintro e w3 ⟨u1, rfl, hu1, f3⟩
  have HBg3 := hid (Blk.fr (w := w2.drew) HBg.out f3 id)
  have HBr3 := hid (Blk.fr (w := w2.drew) HB2.out f3 id)
  have HFr3 := hid (HFr2.out.drew.trans' f3)
  have HS3 := hid (show r + 1 ≤ w3.heap.size from Nat.le_trans (Nat.le_of_eq HL2.out.symm) f3.size)
  have HU1 : Hid (LsIn (fun i => r + 1 ≤ i) w3 u1 c.must) := hid (LsIn.mono hu1 (fun i hi _ => Nat.le_trans (Nat.le_of_eq HL2.out.symm) hi))
  refine ⟨_, rfl, hK2 _ _ (Facts.cons_hold (HBg3.out.cell 4) (Facts.nil_hold _)) ?_⟩
  clear hK2 K2 f3 hu1 d1 d2
  simp only [Act.put, K.put3]
  have hold : Facts.hold [(4, fun w' => w'.cell? ⟨g, 4, none⟩ = some (.slice a2 n2 c2))] w3 := Facts.cons_hold (HBg3.out.cell 4) (Facts.nil_hold _)
  (refine wpD_plain 6 (v := ?_) rfl (by kernel_rfl) (by kernel_rfl) (by kernel_rfl) (fun _ _ _ h => h) (by rfl) ?_ (by assumption) ?_; rotate_left; (intro _w; go_simp; try with_reducible rfl); simp only [Act.put, K.put3])
  clear hold
  refine wpD_only 5 [] rfl (by kernel_rfl) (by kernel_rfl) (by rfl) (fun K5 hK5 => ?_)
  refine wp_call _ _ _ rfl 66 [] rfl (fun vs w => by kernel_rfl) [.slice a2 n2 c2] (by rfl) ?_
  refine (H2.out w3 HFr3.out).mono ?_
  rintro e w4 ⟨u2, rfl, hu2, f4⟩
  have HBg4 := hid (HBg3.out.fr f4 id)
  have HBr4 := hid (HBr3.out.fr f4 id)
  have HFr4 := hid (HFr3.out.trans' f4)
  have HU14 : Hid (LsIn (fun i => r + 1 ≤ i) w4 u1 c.must) := hid (LsIn.fr (D := No) HU1.out f4 (fun _ _ _ e => e))
  have HU24 : Hid (LsIn (fun i => r + 1 ≤ i) w4 u2 c.may) := hid (LsIn.mono hu2 (fun i hi _ => Nat.le_trans HS3.out hi))
  have HO1 : Hid (u1.oneCell' = true ∧ u1.cells = #[u1]) := hid (by obtain ⟨a, cp, rfl, -⟩ := HU14.out.form; exact ⟨rfl, rfl⟩)
  have HO2 : Hid (u2.oneCell' = true ∧ u2.cells = #[u2]) := hid (by obtain ⟨a, cp, rfl, -⟩ := HU24.out.form; exact ⟨rfl, rfl⟩)
  refine ⟨_, rfl, hK5 _ _ (Facts.nil_hold _) ?_⟩
  clear hK5 K5 f4 hu2 HU1 HBg3 HBr3
  simp only [Act.put, K.put3]
  refine wpD_only 7 [] rfl (by kernel_rfl) (by kernel_rfl) (by rfl) (fun K7 hK7 => ?_)
  refine wp_setV _ _ _ rfl g 3 u1 rfl rfl HO1.out.2 HO1.out.1 71 _ HBg4.out (by simp [clV]) infoSs ?_
  intro w5 HB5 F5 HS5
  have HBr5 := hid (HBr4.out.fr F5.out (by show ¬ r = g; have := HG.out; omega))
  have HFr5 := hid (HFr4.out.trans F5.out (fun k e => .inr (by have e : k = g := e; have := HG.out; omega)))
  have HU15 : Hid (LsIn (fun i => r + 1 ≤ i) w5 u1 c.must) := hid (LsIn.fr (D := fun k => k = g) HU14.out F5.out (fun i hi _ e => by have e : i = g := e; have hi : r + 1 ≤ i := hi; have := HG.out; omega))
  have HU25 : Hid (LsIn (fun i => r + 1 ≤ i) w5 u2 c.may) := hid (LsIn.fr (D := fun k => k = g) HU24.out F5.out (fun i hi _ e => by have e : i = g := e; have hi : r + 1 ≤ i := hi; have := HG.out; omega))
  refine hK7 _ _ (Facts.nil_hold _) ?_
  clear hK7 K7 HBr4 HBg4 HU14 HU24
  simp only [Act.put, K.put3]
  have hold : Facts.hold [] w5 := Facts.nil_hold _
  (refine wpD_plain 8 (v := ?_) rfl (by kernel_rfl) (by kernel_rfl) (by kernel_rfl) (fun _ _ _ h => h) (by rfl) ?_ (by assumption) ?_; rotate_left; (intro _w; go_simp; try with_reducible rfl); simp only [Act.put, K.put3])
  clear hold
  refine wpD_only 9 [] rfl (by kernel_rfl) (by kernel_rfl) (by rfl) (fun K9 hK9 => ?_)
  refine wp_setV _ _ _ rfl g 4 u2 rfl rfl HO2.out.2 HO2.out.1 71 _ HB5.out (by simp [clV]) infoSs ?_
  intro w6 HB6 F6 HS6
  have HBr6 := hid (HBr5.out.fr F6.out (by show ¬ r = g; have := HG.out; omega))
  have HFr6 := hid (HFr5.out.trans F6.out (fun k e => .inr (by have e : k = g := e; have := HG.out; omega)))
  have HU16 : Hid (LsIn (fun i => r + 1 ≤ i) w6 u1 c.must) := hid (LsIn.fr (D := fun k => k = g) HU15.out F6.out (fun i hi _ e => by have e : i = g := e; have hi : r + 1 ≤ i := hi; have := HG.out; omega))
  have HU26 : Hid (LsIn (fun i => r + 1 ≤ i) w6 u2 c.may) := hid (LsIn.fr (D := fun k => k = g) HU25.out F6.out (fun i hi _ e => by have e : i = g := e; have hi : r + 1 ≤ i := hi; have := HG.out; omega))
  have HB6' : Hid (Blk w6 g 71 (clV c u1 u2)) := hid HB6.out
  refine hK9 _ _ (Facts.nil_hold _) ?_
  clear hK9 K9 HBr5 HB5 HU15 HU25 HB6
  simp only [Act.put, K.put3]
  refine wpD_done (by kernel_rfl) ?_ _
  have HR6 : Hid (w6.rangeAt g 0 (clV c u1 u2)) := hid (HB6'.out.range 0 _ (by rw [List.drop_zero, List.take_length]))
  have HONE : Hid (∀ v ∈ clV c u1 u2, v.oneCell' = true) := hid (oneCl c HO1.out.1 HO2.out.1)
  go_wp2_with (first
    | ((with_reducible refine K.atO (.load 71 _) ?_); refine wpL_load rfl _ _ rfl g 0 rfl (clV c u1 u2) _ HR6.out rfl rfl infoCl ?_)
    | ((with_reducible refine K.atO (.store 71 _ _) ?_); refine wpL_store rfl _ _ _ rfl r 0 (clV c u1 u2) rfl rfl 71 _ HBr6.out (by simp [clV]) infoCl HONE.out ?_; intro w7 HB7 F7 HS7)
    | fail)
  have HFr7 := hid (HFr6.out.trans F7.out (fun k e => .inr (by have e : k = r := e; have := HG.out; omega)))
  have HB7' : Hid (Blk w7 r 71 (clV c u1 u2)) := hid HB7.out
  have hlo : ∀ i, r + 1 ≤ i → w.heap.size ≤ i := fun i hi => by have := HG.out; omega
  refine ret_cell rfl _ rfl HB7'.out rfl rfl infoCl rfl ?_
  exact ⟨u1, u2, rfl, LsIn.mono (LsIn.fr (D := fun k => k = r) HU16.out F7.out (fun i hi _ e => by have e : i = r := e; have hi : r + 1 ≤ i := hi; omega)) (fun i hi _ => hlo i hi),
    LsIn.mono (LsIn.fr (D := fun k => k = r) HU26.out F7.out (fun i hi _ e => by have e : i = r := e; have hi : r + 1 ≤ i := hi; omega)) (fun i hi _ => hlo i hi), HFr7.out⟩
end Go.Proofs.YtdkkpfeiaaffhaaGreatDoor.SC
