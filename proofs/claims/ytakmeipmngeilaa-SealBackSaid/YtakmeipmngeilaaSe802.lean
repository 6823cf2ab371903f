/-
  Part 2 of the proof: Draw, Conv, Call, OwB, Arr, ThaM, ThaD, ThaP.
-/
import Derived.Test.YtakmeipmngeilaaSe800
import Derived.Laws.IdiomStrings
import Derived.Test.YtakmeipmngeilaaChecked
import Derived.Laws.BitsAllLaws
set_option linter.unusedVariables false
set_option linter.unusedSimpArgs false
namespace Go.Proofs.Ytakmeipmngeilaa.K
set_option maxRecDepth 100000
open Go.RowKit
section
variable {P : Program} {ops : Array Oper} {Q : Exit → Act → World → Prop} {md : Region.Mode}

/-- What may have to hold still: (k, S): operation k may not have been carried out yet, and reads what S says. -/
abbrev Facts := List (Nat × (World → Prop))
def Facts.hold (R : Facts) (w : World) : Prop := ∀ p ∈ R, p.2 w
/-- Behind operation j: those that j does not wait for. -/
def Facts.past (md : Region.Mode) (ops : Array Oper) (R : Facts) (j : Nat) : Facts := R.filter fun p => p.1 != j && !Region.waitsFor md ops j p.1

def wpD (P : Program) (md : Region.Mode) (ops : Array Oper) (Q : Exit → Act → World → Prop) : Facts → Nat → Array Bool → Act → World → Prop
  | _, 0, listed, a, w => Region.ready md ops listed = [] ∧ Q .normal a w
  | R, fuel + 1, listed, a, w =>
    (Region.ready md ops listed = [] → Q .normal a w) ∧
    ∀ j ∈ Region.ready md ops listed, wpOp P ops Q j (fun a' w' => (R.past md ops j).hold w' ∧ wpD P md ops Q (R.past md ops j) fuel (listed.setIfInBounds j true) a' w') a w

theorem wpD_any : ∀ (fuel : Nat) (R : Facts) (listed : Array Bool) (a : Act) (w : World), wpD P md ops Q R fuel listed a w → wpAny P md ops Q fuel listed a w
  | 0, _, _, _, _, h => h
  | fuel + 1, _, _, _, _, h => ⟨h.1, fun i hi => wpOp_mono (fun a' w' h' => wpD_any fuel _ _ a' w' h'.2) (h.2 i hi)⟩

theorem past_sub {R R' : Facts} (h : ∀ p ∈ R', p ∈ R) (j : Nat) : ∀ p ∈ R'.past md ops j, p ∈ R.past md ops j := fun p hp => by
  obtain ⟨h1, h2⟩ := List.mem_filter.1 hp
  exact List.mem_filter.2 ⟨h p h1, h2⟩

theorem wpD_sub : ∀ (fuel : Nat) (R R' : Facts) (listed : Array Bool) (a : Act) (w : World), (∀ p ∈ R', p ∈ R) → wpD P md ops Q R fuel listed a w → wpD P md ops Q R' fuel listed a w
  | 0, _, _, _, _, _, _, h => h
  | fuel + 1, _, _, _, _, _, hs, h => ⟨h.1, fun j hj => wpOp_mono (fun a' w' h' => ⟨fun p hp => h'.1 p (past_sub hs j p hp), wpD_sub fuel _ _ _ a' w' (past_sub hs j) h'.2⟩) (h.2 j hj)⟩

theorem wpD_first {i : Nat} {oi : Oper} {v : Value} {S : World → Prop} (hi : ops[i]? = some oi) (hsel : ∀ (j : Nat) (o : Oper) cs b, ops[j]? = some o → o.op ≠ .select cs b)
    (hQ : ∀ c a w, Q (.panic c) (a.put oi.dst v) w → Q (.panic c) a w) :
    ∀ (fuel : Nat) (R : Facts) (listed : Array Bool) (a : Act) (w : World), ((i, S) ∈ R ∨ ∀ w, S w) →
      (∀ j oj, ops[j]? = some oj → j ≠ i → listed.getD j true = false → (∀ e ∈ oj.after, Region.binds md e = true → e.on ≠ i) → oi.apart ops oj = true) →
      i ∈ Region.ready md ops listed → YieldsIf P ops S oi v a → R.hold w →
      wpD P md ops Q R fuel (listed.setIfInBounds i true) (a.put oi.dst v) w → wpD P md ops Q R (fuel + 1) listed a w := by
  intro fuel
  induction fuel with
  | zero =>
    intro R listed a w hR _ hr hy hS H
    refine ⟨fun h => (by rw [h] at hr; cases hr), fun j hj => ?_⟩
    by_cases hji : j = i
    · subst hji
      exact hy.wpOp hi (hR.elim (fun h => hS _ h) (fun h => h w)) ⟨fun p hp => hS p (List.mem_filter.1 hp).1, H⟩
    · have := ready_mono hj hji
      rw [H.1] at this
      cases this
  | succ fuel ih =>
    intro R listed a w hR hfree hr hy hS H
    refine ⟨fun h => (by rw [h] at hr; cases hr), fun j hj => ?_⟩
    by_cases hji : j = i
    · subst hji
      exact hy.wpOp hi (hR.elim (fun h => hS _ h) (fun h => h w)) ⟨fun p hp => hS p (List.mem_filter.1 hp).1, wpD_sub _ _ _ _ _ _ (fun p hp => (List.mem_filter.1 hp).1) H⟩
    · have h1 := H.2 j (ready_mono hj hji)
      obtain ⟨hjun, oj, hoj, hall⟩ := mem_ready.1 hj
      have hnot : ∀ e ∈ oj.after, Region.binds md e = true → e.on ≠ i := fun e he hb heq => by
        have h1 := hall e he hb
        have h0 := (mem_ready.1 hr).1
        rw [heq] at h1
        rcases Nat.lt_or_ge i listed.size with h' | h'
        · simp [h'] at h0 h1; rw [h0] at h1; cases h1
        · simp [Array.getElem?_eq_none h'] at h1
      have hw : Region.waitsFor md ops j i = false := by
        cases hc : Region.waitsFor md ops j i with
        | false => rfl
        | true =>
          obtain ⟨oj', hoj', e, he, hb, hon⟩ := Region.waitsFor_spec hc
          rw [hoj] at hoj'
          cases hoj'
          exact absurd hon (hnot e he hb)
      have hR' : (i, S) ∈ R.past md ops j ∨ ∀ w, S w := hR.imp (fun h => List.mem_filter.2 ⟨h, by simp [hw, Ne.symm hji]⟩) id
      have h2 := wpOp_putIf hoj (hfree j oj hoj hji hjun hnot) (fun cs b => hsel i oi cs b hi) (fun cs b => hsel j oj cs b hoj) hQ hy h1
      have hfree' : ∀ k ok, ops[k]? = some ok → k ≠ i → (listed.setIfInBounds j true).getD k true = false →
          (∀ e ∈ ok.after, Region.binds md e = true → e.on ≠ i) → oi.apart ops ok = true := fun k ok hk hki hun hno => by
        refine hfree k ok hk hki ?_ hno
        by_cases hjk : j = k
        · subst hjk; exact hjun
        · rw [getD_set_ne true hjk] at hun; exact hun
      refine wpOp_mono (fun a' w' h3 => ⟨h3.2.1, ih _ (listed.setIfInBounds j true) a' w' hR' hfree' (ready_mono hr (Ne.symm hji)) h3.1 h3.2.1 ?_⟩) h2
      rw [Array.setIfInBounds_comm _ _ hji]
      exact h3.2.2

theorem at_drop {i : Nat} {oi : Oper} (h : (ops.toList.drop i).head? = some oi) : ops[i]? = some oi := by
  rw [List.head?_drop] at h
  simpa using h
/-- The beginning. -/
theorem wpD_region {id : Nat} {a : Act} {w : World} {R : Facts} (_hold : R.hold w.drew) (hm : P.follows .mixedOrders = true) (n : Nat) (hn : ops.size = n)
    (h : wpD P .any ops Q R n (Array.replicate n false) a w.drew) : (Code.region id ops true).wp P Q a w := by
  subst hn
  exact wp_region_any hm (wpD_any _ _ _ _ _ h)
/-- Operation i, which reads, is taken first. -/
theorem wpD_take (i : Nat) {oi : Oper} {v : Value} (S : World → Prop) {R : Facts} {fuel : Nat} {listed : Array Bool} {a : Act} {w : World} (hi : (ops.toList.drop i).head? = some oi)
    (hs : Region.noSelect ops = true) (hf : Region.free md ops listed i = true) (hr : (Region.ready md ops listed).contains i = true) (hQ : ∀ c a w, Q (.panic c) (a.put oi.dst v) w → Q (.panic c) a w)
    (hR : (i, S) ∈ R) (hg : Region.wanted oi (yielded ops a.tmps) = true) (hy : ∀ w, S w → (execOp a.eval oi).run P w = .ok (.value v) w) (hS : R.hold w)
    (h : wpD P md ops Q R fuel (listed.setIfInBounds i true) (a.put oi.dst v) w) : wpD P md ops Q R (fuel + 1) listed a w :=
  wpD_first (at_drop hi) (Region.noSelect_spec hs) hQ fuel R listed a w (.inl hR) (Region.free_spec (at_drop hi) hf) (by simpa using hr) (.inl ⟨hg, hy⟩) hS h
/-- Operation i, which asks nothing of the world, is taken first. -/
theorem wpD_plain (i : Nat) {oi : Oper} {v : Value} {R : Facts} {fuel : Nat} {listed : Array Bool} {a : Act} {w : World} (hi : (ops.toList.drop i).head? = some oi)
    (hs : Region.noSelect ops = true) (hf : Region.free md ops listed i = true) (hr : (Region.ready md ops listed).contains i = true) (hQ : ∀ c a w, Q (.panic c) (a.put oi.dst v) w → Q (.panic c) a w)
    (hg : Region.wanted oi (yielded ops a.tmps) = true) (hy : ∀ w, (execOp a.eval oi).run P w = .ok (.value v) w) (hS : R.hold w)
    (h : wpD P md ops Q R fuel (listed.setIfInBounds i true) (a.put oi.dst v) w) : wpD P md ops Q R (fuel + 1) listed a w :=
  wpD_first (S := fun _ => True) (at_drop hi) (Region.noSelect_spec hs) hQ fuel R listed a w (.inr fun _ => trivial) (Region.free_spec (at_drop hi) hf) (by simpa using hr) (.inl ⟨hg, fun w _ => hy w⟩) hS h
/-- Operation i alone may come up. -/
theorem wpD_only (i : Nat) {oi : Oper} {R : Facts} (R' : Facts) {fuel : Nat} {listed : Array Bool} {a : Act} {w : World} (hi : (ops.toList.drop i).head? = some oi) (hr : Region.ready md ops listed = [i]) (hR : R.past md ops i = R')
    (hg : Region.wanted oi (yielded ops a.tmps) = true)
    (h : ∀ K : Act → World → Prop, (∀ a' w', R'.hold w' → wpD P md ops Q R' fuel (listed.setIfInBounds i true) a' w' → K a' w') → oi.wp P a w K Q) : wpD P md ops Q R (fuel + 1) listed a w := by
  refine ⟨fun h0 => (by rw [hr] at h0; cases h0), fun j hj => ?_⟩
  rw [hr] at hj
  obtain rfl := List.mem_singleton.1 hj
  unfold wpOp
  simp only [at_drop hi, hg, if_true]
  rw [hR]
  exact .inl (h _ fun a' w' h1 h2 => ⟨h1, h2⟩)
/-- All have come up. -/
theorem wpD_done {R : Facts} {listed : Array Bool} {a : Act} {w : World} (hr : Region.ready md ops listed = []) (h : Q .normal a w) : ∀ fuel, wpD P md ops Q R fuel listed a w
  | 0 => ⟨hr, h⟩
  | _ + 1 => ⟨fun _ => h, by rw [hr]; simp⟩
theorem Facts.nil_hold (w : World) : Facts.hold [] w := fun _ h => by cases h
theorem Facts.cons_hold {k : Nat} {S : World → Prop} {R : Facts} {w : World} (h : S w) (hr : Facts.hold R w) : Facts.hold ((k, S) :: R) w := fun p hp => by
  rcases List.mem_cons.1 hp with rfl | hp
  · exact h
  · exact hr p hp

/-! ### Operations at 'Oper.wp' -/
variable {op : Oper} {a : Act} {w : World} {K : Act → World → Prop}
/-- A whole array or struct is read: as one operation of a region. -/
theorem exec_load (ty : TypeId) (x : Operand) (ho : op.op = .load ty x) (b o : Nat) (hx : a.eval x = .pointer (some ⟨b, o, none⟩)) (cs : List Value) (d : TypeDesc)
    (hu : P.underlying ty = some d) (hd : d.isRow = true) (hi : (P.info? ty).map (·.size) = some cs.length) : ∀ w : World, w.rangeAt b o cs → (execOp a.eval op).run P w = .ok (.value (.agg cs.toArray)) w := by
  intro w hc
  unfold execOp
  simp only [ho, hx, Instr.loadAt, Instr.sureAddr, Sem.run_bind, Sem.run_pure, Result.andThen_ok, run_loadVar_mid w b o ty cs d hc hu hd hi]
/-- A whole array or struct is stored into a block that is known. -/
theorem wp_storeB (ty : TypeId) (x y : Operand) (ho : op.op = .store ty x y) (b o : Nat) (vs : List Value) (hx : a.eval x = .pointer (some ⟨b, o, none⟩)) (hy : a.eval y = .agg vs.toArray)
    (t : TypeId) (cs : List Value) (hB : Blk w b t cs) (hle : o + vs.length ≤ cs.length) (hi : (P.info? ty).map (·.size) = some vs.length) (h1 : ∀ v ∈ vs, v.oneCell' = true)
    (h : ∀ w', Hid (Blk w' b t (spl cs o vs)) → Hid (Fr (fun k => k = b) w w') → Hid (w'.heap.size = w.heap.size) → K (a.put op.dst undef) w') : op.wp P a w K Q :=
  wp_store_mid ty x y ho b o vs.toArray hx hy (by simpa using hB.there o vs.length hle) (by simpa using hi) (by simpa using h1)
    (h _ (hid (by simpa using hB.sets vs o hle)) (hid (by simpa using (Fr.refl (fun k => k = b) w).setCells b o vs.toArray.toList (.inl rfl))) (hid (by simp)))
/-- A slice literal, each place written in order. -/
theorem run_buildAll (t e : TypeId) (vs : List Value) (i : TypeInfo) (z : Value) (hu : P.underlying t = some (.slice e)) (hi : P.info? e = some i) (hz : i.zero = some z) (hs0 : 0 < i.size) (hs1 : vs.length * i.size ≤ 16777216) (hv0 : 0 < vs.length)
    (hv : ∀ v ∈ vs, v.cells.size = i.size) (w : World) : (Instr.buildSlice t vs.length ((vs.zipIdx 0).map fun x => (x.2, x.1)).toArray).run P w =
      .ok (.slice (some ⟨w.heap.size, 0, none⟩) vs.length vs.length) (w.alloc (.cells (vs.flatMap fun v => v.cells.toList).toArray e)) :=
  run_buildSlice w t e vs.length _ _ i z hu hi hz (by omega) (by have := Nat.mul_pos hv0 hs0; omega) (by simpa using Great.fill_whole hs0 vs _ hv (by simp))
/-- A slice literal of one element. -/
theorem wp_buildOne (t e : TypeId) (x : Operand) (ho : op.op = .buildSlice t 1 #[(0, x)]) (i : TypeInfo) (z : Value) (hu : P.underlying t = some (.slice e)) (hi : P.info? e = some i) (hz : i.zero = some z) (hs0 : 0 < i.size) (hs1 : i.size ≤ 16777216)
    (v : Value) (cs : List Value) (hv : a.eval x = v) (hcs : v.cells = cs.toArray) (hl : cs.length = i.size)
    (h : ∀ w', Hid (Blk w' w.heap.size e cs) → Hid (Fr No w w') → Hid (w'.heap.size = w.heap.size + 1) → K (a.put op.dst (.slice (some ⟨w.heap.size, 0, none⟩) 1 1)) w') : op.wp P a w K Q := by
  have hrun := run_buildAll (P := P) t e [v] i z hu hi hz hs0 (by simpa using hs1) (by simp) (by simp [hcs, hl]) w
  simp only [List.zipIdx_cons, List.zipIdx_nil, List.map_cons, List.map_nil, List.length_singleton, List.flatMap_cons, List.flatMap_nil, List.append_nil, hcs] at hrun
  unfold Oper.wp
  simp [execOp, ho, hv, hrun, Result.andThen]
  exact h _ (hid (Blk.new _ _ _)) (hid ((Fr.refl _ _).alloc _)) (hid (by simp))
end
/-- The same at the list of a plain region. -/
theorem wpL_buildOne {P : Program} {ops : Array Oper} {rest : List Oper} {op : Oper} {a : Act} {w : World} {Q : Exit → Act → World → Prop} (hgd : op.guard = none) (t e : TypeId) (x : Operand) (ho : op.op = .buildSlice t 1 #[(0, x)]) (i : TypeInfo) (z : Value)
    (hu : P.underlying t = some (.slice e)) (hi : P.info? e = some i) (hz : i.zero = some z) (hs0 : 0 < i.size) (hs1 : i.size ≤ 16777216)
    (v : Value) (cs : List Value) (hv : a.eval x = v) (hcs : v.cells = cs.toArray) (hl : cs.length = i.size)
    (h : ∀ w', Hid (Blk w' w.heap.size e cs) → Hid (Fr No w w') → Hid (w'.heap.size = w.heap.size + 1) → wpList P ops Q rest (a.put op.dst (.slice (some ⟨w.heap.size, 0, none⟩) 1 1)) w') : wpList P ops Q (op :: rest) a w :=
  wpList_plain hgd fun _ hK => wp_buildOne t e x ho i z hu hi hz hs0 hs1 v cs hv hcs hl fun w' h1 h2 h3 => hK _ _ (h w' h1 h2 h3)
end Go.Proofs.Ytakmeipmngeilaa.K

set_option linter.unusedVariables false
set_option linter.unusedSimpArgs false
namespace Go.Proofs.Ytakmeipmngeilaa.K
set_option maxRecDepth 100000
open Go.RowKit

theorem rangeAt_new (w : World) (C : Array Value) (e : TypeId) (fz : Nat × Nat) (cs : List Value) (h : ∀ (j : Nat) (v : Value), cs[j]? = some v → C[j]? = some v) : (w.alloc (.cells C e fz)).rangeAt w.heap.size 0 cs := by
  intro j v hj
  rw [cell_of_row _ _ _ C e fz (heap_alloc_new w _), Nat.zero_add]
  exact h j v hj
section
variable {P : Program} {ops : Array Oper} {rest : List Oper} {op : Oper} {a : Act} {w : World} {Q : Exit → Act → World → Prop}
/-- '[]byte(s)'. -/
theorem wpL_bytesOf (hgd : op.guard = none) (src dst e : TypeId) (x : Operand) (ho : op.op = .convert src dst x) (s : ByteArray) (hx : a.eval x = .string s)
    (hs : P.underlying src = some .string) (hd : P.underlying dst = some (.slice e)) (he : P.underlying e = some (.int .u8))
    (h : ∀ c w', Hid (BytesIn w' (New w) (.slice (some ⟨w.heap.size, 0, none⟩) s.size c) s.data.toList) → Hid (Fr No w w') → wpList P ops Q rest (a.put op.dst (.slice (some ⟨w.heap.size, 0, none⟩) s.size c)) w') : wpList P ops Q (op :: rest) a w := by
  refine wpList_plain hgd fun K hK => ?_
  have hrun := run_bytes_of_string (P := P) w src dst e s hs hd he
  have h1 := h (grownCap w s.size 0 e) _ (hid ⟨_, _, _, rfl, by simp, grownCap_ge _ _ _ _, .inr ⟨w.heap.size, 0, rfl, Nat.le_refl _, by simp, rangeAt_new w.drew (bytesRow s (grownCap w s.size 0 e)) e ((bytesRow s (grownCap w s.size 0 e)).size, (bytesRow s (grownCap w s.size 0 e)).size + 1) _ (fun j v hj => by
    unfold bytesRow
    have hl : j < s.size := by have := (List.getElem?_eq_some_iff.1 hj).1; simpa [u8s] using this
    rw [Array.getElem?_append_left (by simpa using hl)]
    simpa [u8s] using hj)⟩⟩) (hid ((Fr.refl No w).drew.alloc _))
  unfold Oper.wp
  simp [execOp, ho, hx, hrun, Result.andThen]
  exact hK _ _ h1
/-- 'string(b)'. -/
theorem wpL_stringOf (hgd : op.guard = none) (src dst e : TypeId) (x : Operand) (ho : op.op = .convert src dst x) (v : Value) (E : Nat → Prop) (l : List UInt8) (hx : a.eval x = v) (hb : BytesIn w E v l)
    (hs : P.underlying src = some (.slice e)) (he : P.underlying e = some (.int .u8)) (hd : P.underlying dst = some .string)
    (h : wpList P ops Q rest (a.put op.dst (.string ⟨l.toArray⟩)) w) : wpList P ops Q (op :: rest) a w := by
  refine wpList_plain hgd fun K hK => ?_
  obtain ⟨ad, len, cap, rfl, rfl, _, h3⟩ := hb
  have hrun : (convert src dst (.slice ad l.length cap)).run P w = .ok (.string ⟨l.toArray⟩) w := by
    cases ad with
    | none =>
      have h0 : l = [] := List.eq_nil_of_length_eq_zero (h3.elim id fun ⟨g, o, h4, _⟩ => by cases h4)
      subst h0
      rw [run_convert_bytes_string w src dst e none _ cap hs he hd]
      rfl
    | some ad =>
      refine run_convert_bytes_back w src dst e ad cap l hs he hd fun j hj => ?_
      obtain ⟨g, o, h4, _, _, h5⟩ := h3.resolve_left (by omega)
      cases h4
      rw [Addr.add_mid]
      exact h5 j _ (u8s_get l j hj)
  unfold Oper.wp
  simp [execOp, ho, hx, hrun, Result.andThen]
  exact hK _ _ h
end
end Go.Proofs.Ytakmeipmngeilaa.K

set_option linter.unusedVariables false
set_option linter.unusedSimpArgs false
namespace Go.Proofs.Ytakmeipmngeilaa.K
set_option maxRecDepth 100000
open Go.RowKit
section
variable {P : Program} {ops : Array Oper} {Q : Exit → Act → World → Prop} {md : Region.Mode} {op : Oper} {a : Act} {w : World} {K : Act → World → Prop}

/-- Two operations may come up. -/
theorem wpD_two (i j : Nat) {oi oj : Oper} {R : Facts} (Ri Rj : Facts) {fuel : Nat} {listed : Array Bool} (hi : (ops.toList.drop i).head? = some oi) (hj : (ops.toList.drop j).head? = some oj) (hr : Region.ready md ops listed = [i, j])
    (hRi : R.past md ops i = Ri) (hRj : R.past md ops j = Rj) (gi : Region.wanted oi (yielded ops a.tmps) = true) (gj : Region.wanted oj (yielded ops a.tmps) = true)
    (h1 : ∀ K : Act → World → Prop, (∀ a' w', Ri.hold w' → wpD P md ops Q Ri fuel (listed.setIfInBounds i true) a' w' → K a' w') → oi.wp P a w K Q)
    (h2 : ∀ K : Act → World → Prop, (∀ a' w', Rj.hold w' → wpD P md ops Q Rj fuel (listed.setIfInBounds j true) a' w' → K a' w') → oj.wp P a w K Q) : wpD P md ops Q R (fuel + 1) listed a w := by
  refine ⟨fun h0 => (by rw [hr] at h0; cases h0), fun k hk => ?_⟩
  rw [hr] at hk
  rcases List.mem_cons.1 hk with rfl | hk
  · unfold wpOp
    simp only [at_drop hi, gi, if_true]
    rw [hRi]
    exact .inl (h1 _ fun a' w' h1 h2 => ⟨h1, h2⟩)
  · obtain rfl := List.mem_singleton.1 hk
    unfold wpOp
    simp only [at_drop hj, gj, if_true]
    rw [hRj]
    exact .inl (h2 _ fun a' w' h1 h2 => ⟨h1, h2⟩)
/-- Operation i, which its guard shuts out, is taken first. -/
theorem wpD_skip (i : Nat) {oi : Oper} {R : Facts} {fuel : Nat} {listed : Array Bool} (hi : (ops.toList.drop i).head? = some oi)
    (hs : Region.noSelect ops = true) (hf : Region.free md ops listed i = true) (hr : (Region.ready md ops listed).contains i = true) (hQ : ∀ c a w, Q (.panic c) (a.put oi.dst undef) w → Q (.panic c) a w)
    (hg : Region.wanted oi (yielded ops a.tmps) = false) (hS : R.hold w)
    (h : wpD P md ops Q R fuel (listed.setIfInBounds i true) (a.put oi.dst undef) w) : wpD P md ops Q R (fuel + 1) listed a w :=
  wpD_first (S := fun _ => True) (at_drop hi) (Region.noSelect_spec hs) hQ fuel R listed a w (.inr fun _ => trivial) (Region.free_spec (at_drop hi) hf) (by simpa using hr) (.inr ⟨hg, rfl⟩) hS h
/-- Several ways meet again: M says what is known there. -/
theorem wpD_join (M : Act → Act → World → Prop) (R' : Facts) (n : Nat) (listed' : Array Bool) {R : Facts} {fuel : Nat} {listed : Array Bool}
    (h : (∀ a' w', M a a' w' → R'.hold w' → wpD P md ops Q R' n listed' a' w') → wpD P md ops Q R fuel listed a w) (tail : ∀ a' w', M a a' w' → R'.hold w' → wpD P md ops Q R' n listed' a' w') : wpD P md ops Q R fuel listed a w := h tail
theorem wpD_cast {R : Facts} {n : Nat} {listed listed' : Array Bool} (hl : listed = listed') (h : wpD P md ops Q R n listed' a w) : wpD P md ops Q R n listed a w := hl ▸ h
/-- A call of a function or a closure, by its contract. -/
theorem wp_call (x : Operand) (args : List Operand) (tys : Array TypeId) (ho : op.op = .call { callee := .value x, args := args.toArray, argTypes := tys }) (f : FuncId) (cap : List Value) (hx : a.eval x = .func (.func f) #[] cap.toArray)
    (hent : ∀ (vs : Array Value) (w : World), (callFunc f vs).run P w = .ok (.enter f vs) w) (vs : List Value) (hvs : args.map a.eval ++ cap = vs)
    (hc : Calls P f vs.toArray w fun e w' => ∃ v, e = .returned v ∧ K (a.put op.dst v) w') : op.wp P a w K Q := by
  unfold Oper.wp
  have e : (execOp a.eval op).run P w = .ok (.enter f vs.toArray) w := by
    have h1 := hent vs.toArray w
    rw [← hvs] at h1
    simp [execOp, ho, resolve, hx, Deferred.ofValue, invoke]
    rw [← hvs]
    simpa using h1
  rw [e]
  show Calls P f vs.toArray w _
  refine hc.mono ?_
  rintro e w' ⟨v, rfl, h⟩
  exact h
/-- A new variable, as one operation of a region. -/
theorem wp_alloc (t : TypeId) (ho : op.op = .alloc t) (z : Value) (hz : ∀ w, (zeroValue t).run P w = .ok z w) (zs : List Value) (hzs : z.cells = zs.toArray)
    (h : ∀ w', Hid (Blk w' w.heap.size t zs) → Hid (Fr No w w') → Hid (w'.heap.size = w.heap.size + 1) → K (a.put op.dst (.pointer (some ⟨w.heap.size, 0, none⟩))) w') : op.wp P a w K Q := by
  unfold Oper.wp
  have h1 := h (w.alloc (.cells z.cells t)) (hid (by rw [hzs]; exact Blk.new w t zs)) (hid ((Fr.refl _ _).alloc _)) (hid (by simp))
  simp [execOp, ho, Instr.alloc, hz, newVar, newRow, Result.andThen]
  exact h1
/-- One cell is stored. -/
theorem wp_set (b o : Nat) (v : Value)
    (t : TypeId) (cs : List Value) (hB : Blk w b t cs) (hle : o < cs.length)
    (hrun : ∀ w : World, (w.cell? ⟨b, o, none⟩).isSome = true → w.frozen? ⟨b, o, none⟩ = false → (execOp a.eval op).run P w = .ok .skip (w.setCell ⟨b, o, none⟩ v))
    (h : ∀ w', Hid (Blk w' b t (cs.set o v)) → Hid (Fr (fun k => k = b) w w') → Hid (w'.heap.size = w.heap.size) → K (a.put op.dst undef) w') : op.wp P a w K Q := by
  unfold Oper.wp
  rw [hrun w (by rw [hB.cell]; simp [hle]) (hB.frozen o)]
  exact h _ (hid (hB.set o v)) (hid ((Fr.refl _ _).setCell _ _ (.inl rfl))) (hid (by simp))
theorem run_copy_str (w : World) (dT sT ty elem : TypeId) (b o dLen dCap : Nat) (t : ByteArray) (cs : List UInt8) (hcs : cs = t.data.toList.take dLen)
    (hu : P.underlying dT = some (.slice elem)) (hz : ∀ w, (Go.sizeOf elem).run P w = .ok 1 w)
    (hc : ∀ j, j < cs.length → (w.cell? ⟨b, o + j, none⟩).isSome = true) (hf : ∀ j, j < cs.length → w.frozen? ⟨b, o + j, none⟩ = false) :
    (Builtin.copy_ #[dT, sT] ty #[.slice (some ⟨b, o, none⟩) dLen dCap, .string t]).run P w = .ok (goInt cs.length) (w.setCells b o (u8s cs)) := by
  have hts : t.data.toList.length = t.size := by simp
  have hmin : Nat.min t.size dLen = cs.length := by rw [hcs, List.length_take, hts, Nat.min_comm]
  have hst := run_storeCells_cells (P := P) b o (u8s cs) 0 w (by rw [u8s_length]; simpa using hc) (by rw [u8s_length]; simpa using hf) (u8s_one cs)
  have htk : (t.data.toList.map fun x => Value.int .u8 (x.toNat : Int)).take cs.length = u8s cs := by
    have hcl : cs.length = min dLen t.data.toList.length := by rw [hcs, List.length_take]
    rw [← List.map_take, hcl, List.take_eq_take_min.symm, ← hcs]
    rfl
  simp [Builtin.copy_, run_underlying hu, Builtin.lenOf, Builtin.firstCells, hz, hmin]
  rw [htk, hst]
  rfl
/-- 'copy(v, s)' out of a string into a block that is known. -/
theorem wp_copyS (d s : Operand) (dT sT : TypeId) (ho : op.op = .call { callee := .builtin .copy, args := #[d, s], argTypes := #[dT, sT] })
    (elem : TypeId) (hu : P.underlying dT = some (.slice elem)) (hz : ∀ w, (Go.sizeOf elem).run P w = .ok 1 w)
    (g off dLen dCap : Nat) (hd : a.eval d = .slice (some ⟨g, off, none⟩) dLen dCap) (x : ByteArray) (hs : a.eval s = .string x)
    (t : TypeId) (cur : List Value) (hB : Blk w g t cur) (cs : List UInt8) (hcs : cs = x.data.toList.take dLen) (hle : off + cs.length ≤ cur.length)
    (h : ∀ w', Hid (Blk w' g t (spl cur off (u8s cs))) → Hid (Fr (fun k => k = g) w w') → Hid (w'.heap.size = w.heap.size) → K (a.put op.dst (goInt cs.length)) w') : op.wp P a w K Q := by
  have hth := hB.there off cs.length hle
  have hrun := run_copy_str (P := P) w dT sT op.type elem g off dLen dCap x cs hcs hu hz (fun j hj => (hth j hj).1) (fun j hj => (hth j hj).2)
  unfold Oper.wp
  simp [execOp, ho, resolve, invoke, builtin, hd, hs, hrun, Result.andThen]
  exact h _ (hid (hB.sets (u8s cs) off (by rw [u8s_length]; exact hle))) (hid ((Fr.refl (fun k => k = g) w).setCells g off _ (.inl rfl))) (hid (by simp))
/-- 'copy' out of a slice into a block that is known. -/
theorem wp_copyB (d s : Operand) (dT sT : TypeId) (ho : op.op = .call { callee := .builtin .copy, args := #[d, s], argTypes := #[dT, sT] })
    (elem : TypeId) (hu : P.underlying dT = some (.slice elem)) (hsz : (P.info? elem).map (·.size) = some 1)
    (g off dLen dCap : Nat) (sp : Option Addr) (sLen sCap : Nat) (hd : a.eval d = .slice (some ⟨g, off, none⟩) dLen dCap) (hs : a.eval s = .slice sp sLen sCap)
    (t : TypeId) (cur : List Value) (hB : Blk w g t cur) (cs : List Value) (hn : cs.length = Nat.min sLen dLen) (hsrc : ∃ ad, sp = some ad ∧ ∀ j v, cs[j]? = some v → w.cell? (ad.add j) = some v)
    (hle : off + cs.length ≤ cur.length) (h1 : ∀ v ∈ cs, v.oneCell' = true)
    (h : ∀ w', Hid (Blk w' g t (spl cur off cs)) → Hid (Fr (fun k => k = g) w w') → Hid (w'.heap.size = w.heap.size) → K (a.put op.dst (goInt cs.length)) w') : op.wp P a w K Q := by
  obtain ⟨ad, rfl, hsrc'⟩ := hsrc
  have hth := hB.there off cs.length hle
  have hrun := run_copy_cells (P := P) w dT sT op.type elem g off dLen dCap ad sLen sCap cs hu hsz hn hsrc' (fun j hj => (hth j hj).1) (fun j hj => (hth j hj).2) h1
  unfold Oper.wp
  simp [execOp, ho, resolve, invoke, builtin, hd, hs, hrun, Result.andThen]
  exact h _ (hid (hB.sets cs off hle)) (hid ((Fr.refl (fun k => k = g) w).setCells g off _ (.inl rfl))) (hid (by simp))
/-- Three results, the first of which lies in memory. -/
theorem ret_cell3 {fn : Func} {R : Ending → World → Prop} {p q r : Tmp} {ty : TypeId} {b : Nat} {t : TypeId} {cs : List Value} (hr : fn.results = #[.cell p ty, .tmp q, .tmp r]) (d : TypeDesc) (hp : a.tmps.getD p undef = .pointer (some ⟨b, 0, none⟩)) (hB : Blk w b t cs)
    (hu : P.underlying ty = some d) (hd : (match d with | .struct _ | .array _ _ => true | _ => false) = true) (hi : (P.info? ty).map (·.size) = some cs.length) (hdf : a.defers = [])
    (h : R (.returned (.tuple #[.agg cs.toArray, a.tmps.getD q undef, a.tmps.getD r undef])) w) : bodyPost P fn R .ret a w := by
  refine bodyPost_ret ?_ hdf h
  have hp' : a.tmps[p]?.getD undef = .pointer (some ⟨b, 0, none⟩) := by simpa using hp
  simp [results, hr, hp', asAddr, run_loadVar_row w b t ty cs.toArray (0, 0) d hB hu hd (by simpa using hi)]
/-- Three results. -/
theorem ret_three {fn : Func} {R : Ending → World → Prop} {p q r : Tmp} (hr : fn.results = #[.tmp p, .tmp q, .tmp r]) (hdf : a.defers = [])
    (h : R (.returned (.tuple #[a.tmps.getD p undef, a.tmps.getD q undef, a.tmps.getD r undef])) w) : bodyPost P fn R .ret a w := by
  refine bodyPost_ret ?_ hdf h
  simp [results, hr]
end
end Go.Proofs.Ytakmeipmngeilaa.K

set_option linter.unusedVariables false
set_option linter.unusedSimpArgs false
namespace Go.Proofs.Ytakmeipmngeilaa.K
set_option maxRecDepth 100000
open Go.RowKit

theorem infoB : (Try.prog.info? 5).map (fun i => (i.zero, i.size, i.bytes)) = some (some (.int .u8 0), 1, 1) := by kernel_rfl
/-- The value is a slice of these bytes, which has been made since w0; nothing that was there has turned. -/
def OwB (w0 w : World) (v : Value) (l : List UInt8) : Prop := (∃ a c, v = .slice a l.length c) ∧ w.ownsRow w0.heap.size 5 1 v l.length (u8s l) ∧ Fr No w0 w
theorem frGrown {w w' : World} {row : Option Nat} (h : w.grownBy w' row) : Fr (fun k => row = some k) w w' := ⟨h.os, h.tape, h.output, h.size, fun k hk hn => h.block k hk (fun e => hn e.symm)⟩
section
variable {w0 w w' : World} {v : Value} {l : List UInt8}
theorem OwB.fr (h : OwB w0 w v l) : Fr No w0 w := h.2.2
theorem OwB.bytes (h : OwB w0 w v l) : BytesIn w (fun k => w0.heap.size ≤ k) v l := own_bytes h.2.1
theorem OwB.ge (h : OwB w0 w v l) (g : Nat) (hg : v.ownBlock = some g) : w0.heap.size ≤ g := own_low h.2.1 g hg
theorem OwB.lt (h : OwB w0 w v l) (g : Nat) (hg : v.ownBlock = some g) : g < w.heap.size := (h.2.1.lt g hg).2
/-- Whatever leaves the row alone, and what was there. -/
theorem OwB.later {D : Nat → Prop} (h : OwB w0 w v l) (hf : Fr D w w') (hn : ∀ k, v.ownBlock = some k → ¬ D k) (hd : ∀ k, D k → w0.heap.size ≤ k) : OwB w0 w' v l :=
  ⟨h.1, own_fr h.2.1 hf hn, h.2.2.trans hf fun k e => .inr (hd k e)⟩
theorem OwB.no (h : OwB w0 w v l) (hf : Fr No w w') : OwB w0 w' v l := h.later hf (fun _ _ e => e) (fun _ e => e.elim)
theorem owB_nil (h : Fr No w0 w) : OwB w0 w (.slice none 0 0) [] := ⟨⟨_, _, rfl⟩, ⟨rfl, .inl ⟨rfl, rfl⟩⟩, h⟩
theorem owB_new {b : Nat} (hB : Blk w b 5 []) (hb : w0.heap.size ≤ b) (h : Fr No w0 w) : OwB w0 w (.slice (some ⟨b, 0, none⟩) 0 0) [] :=
  ⟨⟨_, _, rfl⟩, hB.own hb rfl (Nat.le_refl _) (Nat.zero_le _) rfl rfl, h⟩
theorem src_of {E : Nat → Prop} {sp : Option Addr} {m c : Nat} {b : List UInt8} (h : BytesIn w E (.slice sp m c) b) : b.length = m ∧ (m = 0 ∨ ∃ ad, sp = some ad ∧ ∀ (j : Nat) (u : Value), (u8s b)[j]? = some u → w.cell? (ad.add j) = some u) := by
  obtain ⟨a', len, cap, e1, rfl, h0, h3⟩ := h
  simp only [Value.slice.injEq] at e1
  obtain ⟨rfl, rfl, rfl⟩ := e1
  exact ⟨rfl, h3.imp id fun ⟨g, o, h4, _, _, h5⟩ => ⟨_, h4, range_loads h5⟩⟩
/-- A literal of one byte. -/
theorem one_src {b : Nat} {x : UInt8} (hB : Blk w b 5 [.int .u8 (x.toNat : Int)]) : 1 = 0 ∨ ∃ ad, (some (⟨b, 0, none⟩ : Addr)) = some ad ∧ ∀ (j : Nat) (u : Value), (u8s [x])[j]? = some u → w.cell? (ad.add j) = some u :=
  .inr ⟨_, rfl, range_loads (hB.range 0 _ rfl)⟩
end
section
variable {ops : Array Oper} {rest : List Oper} {op : Oper} {a : Act} {w : World} {Q : Exit → Act → World → Prop}
/-- 'append(v, x...)' to such a row. -/
theorem wpL_appB (hgd : op.guard = none) (s x : Operand) (ho : op.op = .call { callee := .builtin .append, args := #[s, x], argTypes := #[38, 38] }) {w0 : World} {v : Value} {l : List UInt8} (hown : OwB w0 w v l) (hv : a.eval s = v)
    (sp : Option Addr) (m c : Nat) (news : List UInt8) (hx : a.eval x = .slice sp m c) (hl : news.length = m) (hsrc : m = 0 ∨ ∃ ad, sp = some ad ∧ ∀ (j : Nat) (u : Value), (u8s news)[j]? = some u → w.cell? (ad.add j) = some u)
    (n : Nat) (hn : l.length + m = n) (r : List UInt8) (hr : l ++ news = r) (hb : n ≤ 140737488355328)
    (h : ∀ a' cap' w', Hid (OwB w0 w' (.slice a' n cap') r) → Hid (Fr (fun k => v.ownBlock = some k) w w') → Hid ((Value.slice a' n cap').ownBlock = v.ownBlock ∨ (Value.slice a' n cap').ownBlock = some w.heap.size) →
      wpList Try.prog ops Q rest (a.put op.dst (.slice a' n cap')) w') : wpList Try.prog ops Q (op :: rest) a w := by
  obtain ⟨i, hi, hz, hs, hbb⟩ := Go.info_parts infoB
  subst hn
  refine wpL_append hgd s x 38 ho w0.heap.size 5 i _ 1 1 Try.underlying38 hi hz hs hbb rfl (by decide) v l.length (u8s l) hv hown.2.1 sp m c (u8s news) hx (by rw [u8s_length, hl, Nat.mul_one]) hsrc (u8s_one _) (by unfold maxLen; omega) (by omega) hown.2.2.size ?_
  intro a' cap' w' p q r'
  refine h a' cap' w' (hid ⟨⟨a', cap', by rw [← hr, List.length_append, hl]⟩, ?_, ?_⟩) (hid (frGrown q.out)) r'
  · rw [← hr, List.length_append, hl, u8s_append]
    exact p.out
  · exact hown.2.2.trans (frGrown q.out) fun k e => .inr (own_low hown.2.1 k e)
end
end Go.Proofs.Ytakmeipmngeilaa.K

set_option linter.unusedVariables false
set_option linter.unusedSimpArgs false
namespace Go.Proofs.Ytakmeipmngeilaa.AR
set_option maxRecDepth 100000
open Go.RowKit K

/-- n bytes, as cells. -/
def bw (kd : IntKind) (f : Nat → Nat) (n : Nat) : List Value := (List.range n).map fun i => .int kd (f i : Int)
def ba (kd : IntKind) (f : Nat → Nat) (n : Nat) : Value := .agg (bw kd f n).toArray
variable {kd : IntKind}
/-- Another number at place i. -/
def upd (f : Nat → Nat) (i x : Nat) : Nat → Nat := fun j => if j = i then x else f j
/-- g as far as n, f behind it. -/
def upto (n : Nat) (g f : Nat → Nat) : Nat → Nat := fun j => if j < n then g j else f j
/-- m bytes from place o on. -/
def over (f : Nat → Nat) (o m : Nat) (g : Nat → Nat) : Nat → Nat := fun j => if o ≤ j ∧ j < o + m then g (j - o) else f j
@[simp] theorem bw_length (f : Nat → Nat) (n : Nat) : (bw kd f n).length = n := by simp [bw]
theorem bw_get (f : Nat → Nat) {i n : Nat} (h : i < n) : (bw kd f n)[i]? = some (.int kd (f i : Int)) := by simp [bw, h]
theorem bw_congr {f g : Nat → Nat} {n : Nat} (h : ∀ i, i < n → f i = g i) : bw kd f n = bw kd g n := by
  unfold bw
  refine List.map_congr_left fun i hi => ?_
  rw [h i (List.mem_range.1 hi)]
theorem bw_inj {f g : Nat → Nat} {n : Nat} (h : bw kd f n = bw kd g n) : ∀ i, i < n → f i = g i := fun i hi => by
  have h1 := bw_get (kd := kd) f hi
  rw [h, bw_get g hi] at h1
  have : ((g i : Nat) : Int) = (f i : Nat) := by simpa using h1
  omega
theorem bw_set (f : Nat → Nat) (n i x : Nat) : (bw kd f n).set i (.int kd (x : Int)) = bw kd (upd f i x) n := by
  refine List.ext_getElem? fun j => ?_
  by_cases hj : j < n
  · rw [bw_get _ hj, List.getElem?_set]
    unfold upd
    by_cases e : i = j
    · subst e; simp [hj]
    · rw [if_neg e, if_neg (fun h => e h.symm), bw_get _ hj]
  · rw [List.getElem?_eq_none (by simp; omega), List.getElem?_eq_none (by simp; omega)]
theorem bw_spl (f g : Nat → Nat) {n o m : Nat} (h : o + m ≤ n) : spl (bw kd f n) o (bw kd g m) = bw kd (over f o m g) n := by
  refine List.ext_getElem? fun j => ?_
  unfold spl over
  by_cases hj : j < n
  · rw [bw_get _ hj]
    by_cases h1 : j < o
    · rw [List.append_assoc, List.getElem?_append_left (by simp; omega), List.getElem?_take, if_pos h1, bw_get _ hj, if_neg (by omega)]
    · by_cases h2 : j < o + m
      · rw [List.append_assoc, List.getElem?_append_right (by simp; omega), List.getElem?_append_left (by simp; omega), if_pos ⟨by omega, h2⟩]
        simp only [List.length_take, bw_length, Nat.min_eq_left (show o ≤ n by omega)]
        rw [bw_get _ (by omega)]
      · rw [List.getElem?_append_right (by simp; omega), if_neg (by omega)]
        simp only [List.length_append, List.length_take, bw_length, Nat.min_eq_left (show o ≤ n by omega), List.getElem?_drop]
        rw [show o + m + (j - (o + m)) = j by omega, bw_get _ hj]
  · rw [List.getElem?_eq_none (by simp; omega), List.getElem?_eq_none (by simp; omega)]
theorem bw_part (f : Nat → Nat) {n o m : Nat} (h : o + m ≤ n) : ((bw kd f n).drop o).take m = bw kd (fun i => f (o + i)) m := by
  refine List.ext_getElem? fun j => ?_
  rw [List.getElem?_take]
  by_cases hj : j < m
  · rw [if_pos hj, List.getElem?_drop, bw_get _ (by omega), bw_get _ hj]
  · rw [if_neg hj, List.getElem?_eq_none (by simp; omega)]
theorem bw_one (f : Nat → Nat) (n : Nat) : ∀ v ∈ bw kd f n, v.oneCell' = true := by
  intro v hv
  obtain ⟨i, _, rfl⟩ := List.mem_map.1 hv
  rfl
theorem upto_zero (g f : Nat → Nat) : upto 0 g f = f := by funext j; simp [upto]
theorem upto_set (g f : Nat → Nat) (n : Nat) : upd (upto n g f) n (g n) = upto (n + 1) g f := by
  funext j
  unfold upd upto
  by_cases h : j = n
  · subst h; rw [if_pos rfl, if_pos (by omega)]
  · rw [if_neg h]
    by_cases h2 : j < n
    · rw [if_pos h2, if_pos (by omega)]
    · rw [if_neg h2, if_neg (by omega)]
theorem upto_get (g f : Nat → Nat) {n j : Nat} (h : n ≤ j) : upto n g f j = f j := by unfold upto; rw [if_neg (by omega)]
theorem upto_all (g f : Nat → Nat) (n : Nat) : bw kd (upto n g f) n = bw kd g n := bw_congr fun i hi => by unfold upto; rw [if_pos hi]
theorem upd_upd (f : Nat → Nat) (i x y : Nat) : upd (upd f i x) i y = upd f i y := by
  funext j; unfold upd; split <;> rfl
theorem upd_self (f : Nat → Nat) (i : Nat) : upd f i (f i) = f := by
  funext j; unfold upd; split
  · rename_i h; rw [h]
  · rfl
theorem upd_at (f : Nat → Nat) (i x : Nat) : upd f i x i = x := by simp [upd]
theorem upd_ne (f : Nat → Nat) {i j : Nat} (x : Nat) (h : j ≠ i) : upd f i x j = f j := by simp [upd, h]
section
variable {P : Program} {ops : Array Oper} {rest : List Oper} {op : Oper} {a : Act} {w : World} {Q : Exit → Act → World → Prop}
theorem blk_at {b : Nat} {t : TypeId} {f : Nat → Nat} {n : Nat} (h : Blk w b t (bw kd f n)) {i : Nat} (hi : i < n) : w.cell? ⟨b, i, none⟩ = some (.int kd (f i : Int)) := by rw [h.cell, bw_get f hi]
theorem blk_row {b : Nat} {t : TypeId} {f : Nat → Nat} {n : Nat} (h : Blk w b t (bw kd f n)) (o m : Nat) (hi : o + m ≤ n) : w.rangeAt b o (bw kd (fun i => f (o + i)) m) := by
  have := h.range o (bw kd (fun i => f (o + i)) m) (by rw [bw_length, bw_part f hi])
  exact this
theorem run_put (w : World) (b o : Nat) (ty : TypeId) (v : Value) (hv : v.cells = #[v]) (ht : w.there b o 1) (hi : (P.info? ty).map (·.size) = some 1) (h1 : v.oneCell' = true) :
    (storeVar ty ⟨b, o, none⟩ v).run P w = .ok () (w.setCells b o [v]) := by
  have := run_storeCells_cells (P := P) b o [v] 0 w (fun j hj => by simpa using (ht j (by simpa using hj)).1) (fun j hj => by simpa using (ht j (by simpa using hj)).2) (by simpa using h1)
  cases hq : P.info? ty with
  | none => simp [hq] at hi
  | some i =>
    have hi' : i.size = 1 := by simpa [hq] using hi
    simp [storeVar, sizeOf, typeInfo, hq, hi', hv, this]
/-- A byte is stored into a row that is known. -/
theorem wp_put {K : Act → World → Prop} (ty : TypeId) (x y : Operand) (ho : op.op = .store ty x y) (b o : Nat) (v : Nat) (hx : a.eval x = .pointer (some ⟨b, o, none⟩)) (hy : a.eval y = .int kd (v : Int))
    (t : TypeId) (f : Nat → Nat) (n : Nat) (hB : Blk w b t (bw kd f n)) (hle : o < n) (hi : (P.info? ty).map (·.size) = some 1)
    (h : ∀ w', Hid (Blk w' b t (bw kd (upd f o v) n)) → Hid (Fr (fun k => k = b) w w') → Hid (w'.heap.size = w.heap.size) → K (a.put op.dst undef) w') : op.wp P a w K Q := by
  have hS := hB.sets [.int kd (v : Int)] o (by simp; omega)
  have e : spl (bw kd f n) o [.int kd (v : Int)] = bw kd (upd f o v) n := by
    rw [← bw_set, ← spl_cons _ _ _ _ (by simpa using hle), spl_nil]
  rw [e] at hS
  have hrun := run_put w b o ty (.int kd (v : Int)) rfl (hB.there o 1 (by simp; omega)) hi rfl
  unfold Oper.wp execOp
  simp only [ho, hx, hy, Instr.storeAt, Instr.sureAddr, Sem.run_bind, Sem.run_pure, Result.andThen_ok, hrun]
  exact h _ (hid hS) (hid ((Fr.refl (fun k => k = b) w).setCells b o _ (.inl rfl))) (hid (by simp))
theorem wpL_put (hgd : op.guard = none) (ty : TypeId) (x y : Operand) (ho : op.op = .store ty x y) (b o : Nat) (v : Nat) (hx : a.eval x = .pointer (some ⟨b, o, none⟩)) (hy : a.eval y = .int kd (v : Int))
    (t : TypeId) (f : Nat → Nat) (n : Nat) (hB : Blk w b t (bw kd f n)) (hle : o < n) (hi : (P.info? ty).map (·.size) = some 1)
    (h : ∀ w', Hid (Blk w' b t (bw kd (upd f o v) n)) → Hid (Fr (fun k => k = b) w w') → Hid (w'.heap.size = w.heap.size) → wpList P ops Q rest (a.put op.dst undef) w') : wpList P ops Q (op :: rest) a w :=
  wpList_plain hgd fun _ hK => wp_put ty x y ho b o v hx hy t f n hB hle hi fun w' p q r => hK _ _ (h w' p q r)
/-- A row of bytes is stored into a row that is known. -/
theorem wp_row {K : Act → World → Prop} (ty : TypeId) (x y : Operand) (ho : op.op = .store ty x y) (b o : Nat) (g : Nat → Nat) (m : Nat) (hx : a.eval x = .pointer (some ⟨b, o, none⟩)) (hy : a.eval y = ba kd g m)
    (t : TypeId) (f : Nat → Nat) (n : Nat) (hB : Blk w b t (bw kd f n)) (hle : o + m ≤ n) (hi : (P.info? ty).map (·.size) = some m)
    (h : ∀ w', Hid (Blk w' b t (bw kd (over f o m g) n)) → Hid (Fr (fun k => k = b) w w') → Hid (w'.heap.size = w.heap.size) → K (a.put op.dst undef) w') : op.wp P a w K Q :=
  wp_storeB ty x y ho b o (bw kd g m) hx hy t (bw kd f n) hB (by simpa using hle) (by simpa using hi) (bw_one g m) fun w' p q r => h w' (hid (by have := p.out; rwa [bw_spl f g hle] at this)) q r
theorem wpL_row (hgd : op.guard = none) (ty : TypeId) (x y : Operand) (ho : op.op = .store ty x y) (b o : Nat) (g : Nat → Nat) (m : Nat) (hx : a.eval x = .pointer (some ⟨b, o, none⟩)) (hy : a.eval y = ba kd g m)
    (t : TypeId) (f : Nat → Nat) (n : Nat) (hB : Blk w b t (bw kd f n)) (hle : o + m ≤ n) (hi : (P.info? ty).map (·.size) = some m)
    (h : ∀ w', Hid (Blk w' b t (bw kd (over f o m g) n)) → Hid (Fr (fun k => k = b) w w') → Hid (w'.heap.size = w.heap.size) → wpList P ops Q rest (a.put op.dst undef) w') : wpList P ops Q (op :: rest) a w :=
  wpList_plain hgd fun _ hK => wp_row ty x y ho b o g m hx hy t f n hB hle hi fun w' p q r => hK _ _ (h w' p q r)
/-- The same over a whole row. -/
theorem over_all (f g : Nat → Nat) (n : Nat) : bw kd (over f 0 n g) n = bw kd g n := bw_congr fun i hi => by unfold over; rw [if_pos ⟨by omega, by omega⟩]; rfl
theorem wpL_whole (hgd : op.guard = none) (ty : TypeId) (x y : Operand) (ho : op.op = .store ty x y) (b : Nat) (g : Nat → Nat) (n : Nat) (hx : a.eval x = .pointer (some ⟨b, 0, none⟩)) (hy : a.eval y = ba kd g n)
    (t : TypeId) (f : Nat → Nat) (hB : Blk w b t (bw kd f n)) (hi : (P.info? ty).map (·.size) = some n)
    (h : ∀ w', Hid (Blk w' b t (bw kd g n)) → Hid (Fr (fun k => k = b) w w') → Hid (w'.heap.size = w.heap.size) → wpList P ops Q rest (a.put op.dst undef) w') : wpList P ops Q (op :: rest) a w :=
  wpL_row hgd ty x y ho b 0 g n hx hy t f n hB (by omega) hi fun w' p q r => h w' (hid (by have := p.out; rwa [over_all] at this)) q r
/-- A row of bytes is read. -/
theorem wpL_part (hgd : op.guard = none) (ty : TypeId) (x : Operand) (ho : op.op = .load ty x) (b o : Nat) (m : Nat) (hx : a.eval x = .pointer (some ⟨b, o, none⟩)) (t : TypeId) (f : Nat → Nat) (n : Nat) (d : TypeDesc) (hB : Blk w b t (bw kd f n)) (hle : o + m ≤ n)
    (hu : P.underlying ty = some d) (hd : d.isRow = true) (hi : (P.info? ty).map (·.size) = some m) (h : wpList P ops Q rest (a.put op.dst (ba kd (fun i => f (o + i)) m)) w) : wpList P ops Q (op :: rest) a w :=
  wpL_load hgd ty x ho b o hx (bw kd (fun i => f (o + i)) m) d (blk_row hB o m hle) hu hd (by simpa using hi) h
theorem wpL_all (hgd : op.guard = none) (ty : TypeId) (x : Operand) (ho : op.op = .load ty x) (b : Nat) (hx : a.eval x = .pointer (some ⟨b, 0, none⟩)) (t : TypeId) (f : Nat → Nat) (n : Nat) (d : TypeDesc) (hB : Blk w b t (bw kd f n))
    (hu : P.underlying ty = some d) (hd : d.isRow = true) (hi : (P.info? ty).map (·.size) = some n) (h : wpList P ops Q rest (a.put op.dst (ba kd f n)) w) : wpList P ops Q (op :: rest) a w := by
  refine wpL_part hgd ty x ho b 0 n hx t f n d hB (by omega) hu hd hi ?_
  rw [show (fun i => f (0 + i)) = f by funext i; rw [Nat.zero_add]]
  exact h
/-- The same two, with what is read and what lies there behind in words of one's own. -/
theorem wpL_partG (hgd : op.guard = none) (ty : TypeId) (x : Operand) (ho : op.op = .load ty x) (b o : Nat) (m : Nat) (hx : a.eval x = .pointer (some ⟨b, o, none⟩)) (t : TypeId) (f g : Nat → Nat) (n : Nat) (d : TypeDesc) (hB : Blk w b t (bw kd f n)) (hle : o + m ≤ n)
    (hg : ∀ i, i < m → f (o + i) = g i) (hu : P.underlying ty = some d) (hd : d.isRow = true) (hi : (P.info? ty).map (·.size) = some m) (h : wpList P ops Q rest (a.put op.dst (ba kd g m)) w) : wpList P ops Q (op :: rest) a w := by
  refine wpL_part hgd ty x ho b o m hx t f n d hB hle hu hd hi ?_
  rw [ba, bw_congr hg]
  exact h
theorem wpL_rowG (hgd : op.guard = none) (ty : TypeId) (x y : Operand) (ho : op.op = .store ty x y) (b o : Nat) (g : Nat → Nat) (m : Nat) (hx : a.eval x = .pointer (some ⟨b, o, none⟩)) (hy : a.eval y = ba kd g m)
    (t : TypeId) (f F : Nat → Nat) (n : Nat) (hB : Blk w b t (bw kd f n)) (hle : o + m ≤ n) (hF : ∀ i, i < n → over f o m g i = F i) (hi : (P.info? ty).map (·.size) = some m)
    (h : ∀ w', Hid (Blk w' b t (bw kd F n)) → Hid (Fr (fun k => k = b) w w') → Hid (w'.heap.size = w.heap.size) → wpList P ops Q rest (a.put op.dst undef) w') : wpList P ops Q (op :: rest) a w :=
  wpL_row hgd ty x y ho b o g m hx hy t f n hB hle hi fun w' p q r => h w' (hid (by have := p.out; rwa [bw_congr hF] at this)) q r
/-- A call of a function value, at the list of a plain region. -/
theorem wpL_callF (hgd : op.guard = none) (x : Operand) (args : List Operand) (tys : Array TypeId)
    (ho : op.op = .call { callee := .value x, args := args.toArray, argTypes := tys }) (f : FuncId) (cap : List Value) (hx : a.eval x = .func (.func f) #[] cap.toArray)
    (hent : ∀ (vs : Array Value) (w : World), (callFunc f vs).run P w = .ok (.enter f vs) w) (vs : List Value) (hvs : args.map a.eval ++ cap = vs)
    (hc : Calls P f vs.toArray w fun e w' => ∃ v, e = .returned v ∧ wpList P ops Q rest (a.put op.dst v) w') : wpList P ops Q (op :: rest) a w :=
  wpList_plain hgd fun _ hK => wp_call x args tys ho f cap hx hent vs hvs (hc.mono fun e w' ⟨v, h1, h2⟩ => ⟨v, h1, hK _ _ h2⟩)
end
end Go.Proofs.Ytakmeipmngeilaa.AR

set_option linter.unusedVariables false
set_option linter.unusedSimpArgs false
set_option linter.unusedSectionVars false
namespace Go.Proofs.Ytakmeipmngeilaa.SH
set_option maxRecDepth 100000
def R (n x : Nat) : Nat := x / 2 ^ n ||| x * 2 ^ (32 - n) % 4294967296
def g0 (x : Nat) : Nat := R 7 x ^^^ R 18 x ^^^ x / 2 ^ 3
def g1 (x : Nat) : Nat := R 17 x ^^^ R 19 x ^^^ x / 2 ^ 10
def e1 (x : Nat) : Nat := R 6 x ^^^ R 11 x ^^^ R 25 x
def e0 (x : Nat) : Nat := R 2 x ^^^ R 13 x ^^^ R 22 x
def ch (e f g : Nat) : Nat := (e &&& f) ^^^ ((4294967295 - e) &&& g)
def maj (a b c : Nat) : Nat := (a &&& b) ^^^ (a &&& c) ^^^ (b &&& c)
def upd (f : Nat → Nat) (i x : Nat) : Nat → Nat := fun j => if j = i then x else f j
/-- Two tables of words, whatever they hold. -/
class Tab where
  tk : Nat → Nat
  th : Nat → Nat
  tk_lt : ∀ i, tk i < 4294967296
  th_lt : ∀ i, th i < 4294967296
variable [Tab]
def kc (i : Nat) : Nat := Tab.tk i
def h0 (i : Nat) : Nat := Tab.th i
/-- The words of a block, n of them reckoned. -/
def wS (m : Nat → Nat) : Nat → Nat → Nat
  | 0 => m
  | n + 1 => upd (wS m n) (n + 16) ((wS m n n + wS m n (n + 9) + g0 (wS m n (n + 1)) + g1 (wS m n (n + 14))) % 4294967296)
def rx (k w : Nat) (s : Nat → Nat) : Nat := (s 7 + e1 (s 4) + ch (s 4) (s 5) (s 6) + k + w) % 4294967296
def ry (s : Nat → Nat) : Nat := (e0 (s 0) + maj (s 0) (s 1) (s 2)) % 4294967296
/-- A round. -/
def rd (k w : Nat) (s : Nat → Nat) : Nat → Nat
  | 0 => (rx k w s + ry s) % 4294967296
  | 1 => s 0
  | 2 => s 1
  | 3 => s 2
  | 4 => (s 3 + rx k w s) % 4294967296
  | 5 => s 4
  | 6 => s 5
  | 7 => s 6
  | _ => 0
def rds (w h : Nat → Nat) : Nat → Nat → Nat
  | 0 => h
  | n + 1 => rd (kc n) (w n) (rds w h n)
/-- A block of words m into the state h. -/
def comp (h m : Nat → Nat) : Nat → Nat := fun i => (h i + rds (wS m 48) h 64 i) % 4294967296

theorem wS_low (m : Nat → Nat) (n : Nat) {j : Nat} (h : j < n + 16) : wS m (n + 1) j = wS m n j := by
  show (if j = n + 16 then _ else wS m n j) = _
  rw [if_neg (by omega)]
theorem wS_new (m : Nat → Nat) (n : Nat) : wS m (n + 1) (n + 16) = (wS m n n + wS m n (n + 9) + g0 (wS m n (n + 1)) + g1 (wS m n (n + 14))) % 4294967296 := by
  show (if n + 16 = n + 16 then _ else _) = _
  rw [if_pos rfl]
theorem comp_def (h m : Nat → Nat) (i : Nat) : comp h m i = (h i + rds (wS m 48) h 64 i) % 4294967296 := by rw [comp]
end Go.Proofs.Ytakmeipmngeilaa.SH

set_option linter.unusedVariables false
set_option linter.unusedSimpArgs false
set_option linter.unusedSectionVars false
namespace Go.Proofs.Ytakmeipmngeilaa.SH
set_option maxRecDepth 100000
variable [Tab]

/-- How many noughts are put behind. -/
def padz (n : Nat) : Nat := (119 - n % 64) % 64
def be8 (n : Nat) (i : Nat) : UInt8 := UInt8.ofNat (n / 2 ^ (8 * (7 - i)) % 256)
def pad (l : List UInt8) : List UInt8 := l ++ [128] ++ List.replicate (padz l.length) 0 ++ (List.range 8).map (be8 (l.length * 8))
theorem pad_length (l : List UInt8) : (pad l).length = l.length + 9 + padz l.length := by simp [pad]; omega
theorem pad_blocks (l : List UInt8) : (pad l).length % 64 = 0 := by rw [pad_length]; unfold padz; omega
theorem padz_lt (n : Nat) : padz n < 64 := Nat.mod_lt _ (by decide)
/-- Four bytes, the most significant one first. -/
def word (l : List UInt8) (p : Nat) : Nat := (l.getD p 0).toNat * 16777216 + (l.getD (p + 1) 0).toNat * 65536 + (l.getD (p + 2) 0).toNat * 256 + (l.getD (p + 3) 0).toNat
theorem word_lt (l : List UInt8) (p : Nat) : word l p < 4294967296 := by
  unfold word
  have := (l.getD p 0).toNat_lt; have := (l.getD (p + 1) 0).toNat_lt; have := (l.getD (p + 2) 0).toNat_lt; have := (l.getD (p + 3) 0).toNat_lt
  omega
/-- The state behind n blocks. -/
def hs (l : List UInt8) : Nat → Nat → Nat
  | 0 => h0
  | n + 1 => comp (hs l n) fun i => word l (64 * n + 4 * i)
def dig (l : List UInt8) : Nat → Nat := fun i => hs (pad l) ((pad l).length / 64) (i / 4) / 2 ^ (24 - i % 4 * 8) % 256
theorem dig_lt (l : List UInt8) (i : Nat) : dig l i < 256 := Nat.mod_lt _ (by decide)

/-! ### Words stay below 2^32 -/
def B32 (f : Nat → Nat) : Prop := ∀ i, f i < 4294967296
theorem xor_lt {a b : Nat} (ha : a < 4294967296) (hb : b < 4294967296) : a ^^^ b < 4294967296 := Nat.xor_lt_two_pow (n := 32) ha hb
theorem and_lt {a b : Nat} (hb : b < 4294967296) : a &&& b < 4294967296 := Nat.lt_of_le_of_lt Nat.and_le_right hb
theorem R_lt {n x : Nat} (hx : x < 4294967296) : R n x < 4294967296 := Nat.or_lt_two_pow (n := 32) (Nat.lt_of_le_of_lt (Nat.div_le_self _ _) hx) (Nat.mod_lt _ (by decide))
theorem kc_lt : B32 kc := Tab.tk_lt
theorem h0_lt : B32 h0 := Tab.th_lt
theorem wS_lt {m : Nat → Nat} (h : B32 m) : ∀ n, B32 (wS m n)
  | 0 => h
  | n + 1 => fun i => by
    show (if i = n + 16 then _ else wS m n i) < _
    split
    · exact Nat.mod_lt _ (by decide)
    · exact wS_lt h n i
theorem rx_lt (k w : Nat) (s : Nat → Nat) : rx k w s < 4294967296 := Nat.mod_lt _ (by decide)
theorem ry_lt (s : Nat → Nat) : ry s < 4294967296 := Nat.mod_lt _ (by decide)
theorem rd_lt {s : Nat → Nat} (k w : Nat) (h : B32 s) : B32 (rd k w s) := fun i => by
  unfold rd
  split <;> first | exact h _ | exact Nat.mod_lt _ (by decide) | decide
theorem rds_lt {h : Nat → Nat} (w : Nat → Nat) (hh : B32 h) : ∀ n, B32 (rds w h n)
  | 0 => hh
  | n + 1 => rd_lt _ _ (rds_lt w hh n)
theorem comp_lt (h m : Nat → Nat) : B32 (comp h m) := fun _ => Nat.mod_lt _ (by decide)
theorem hs_lt (l : List UInt8) : ∀ n, B32 (hs l n)
  | 0 => h0_lt
  | n + 1 => comp_lt _ _
/-! ### HMAC -/
def key64 (key : List UInt8) : List UInt8 := (if 64 < key.length then (List.range 32).map fun i => UInt8.ofNat (dig key i) else key) ++ List.replicate (64 - (if 64 < key.length then 32 else key.length)) 0
def with_ (c : UInt8) (k : List UInt8) : List UInt8 := k.map (· ^^^ c)
def digL (l : List UInt8) : List UInt8 := (List.range 32).map fun i => UInt8.ofNat (dig l i)
def mac (key b : List UInt8) : Nat → Nat := dig (with_ 92 (key64 key) ++ digL (with_ 54 (key64 key) ++ b))
end Go.Proofs.Ytakmeipmngeilaa.SH

set_option linter.unusedVariables false
set_option linter.unusedSimpArgs false
set_option linter.unusedSectionVars false
namespace Go.Proofs.Ytakmeipmngeilaa.SH
set_option maxRecDepth 100000
open Go.RowKit K AR
variable [Tab]

theorem or32 {a b : Nat} (ha : a < 4294967296) (hb : b < 4294967296) : bits .or .u32 (a : Int) (b : Int) = ((a ||| b : Nat) : Int) := u32_or_nat a b ha hb
theorem xor32 {a b : Nat} (ha : a < 4294967296) (hb : b < 4294967296) : bits .xor .u32 (a : Int) (b : Int) = ((a ^^^ b : Nat) : Int) := u32_xor_nat a b ha hb
theorem and32 {a b : Nat} (ha : a < 4294967296) (hb : b < 4294967296) : bits .and .u32 (a : Int) (b : Int) = ((a &&& b : Nat) : Int) := u32_and_nat a b ha hb
theorem R_eq {x n : Nat} (hx : x < 4294967296) : bits .or .u32 ((x : Int) / 2 ^ n) ((x : Int) * 2 ^ (32 - n) % 4294967296) = ((R n x : Nat) : Int) := by
  have e1 : ((x : Int) / 2 ^ n) = ((x / 2 ^ n : Nat) : Int) := by simp
  have e2 : ((x : Int) * 2 ^ (32 - n) % 4294967296) = ((x * 2 ^ (32 - n) % 4294967296 : Nat) : Int) := by simp
  rw [e1, e2, or32 (Nat.lt_of_le_of_lt (Nat.div_le_self _ _) hx) (Nat.mod_lt _ (by decide))]
  rfl
theorem zero8w (w : World) : (zeroValue 92).run Try.prog w = .ok (ba .u32 (fun _ => 0) 8) w := by kernel_rfl
theorem zero64w (w : World) : (zeroValue 94).run Try.prog w = .ok (ba .u32 (fun _ => 0) 64) w := by kernel_rfl
theorem zero32b (w : World) : (zeroValue 78).run Try.prog w = .ok (ba .u8 (fun _ => 0) 32) w := by kernel_rfl
theorem info8w : (Try.prog.info? 92).map (·.size) = some 8 := by kernel_rfl
theorem info64w : (Try.prog.info? 94).map (·.size) = some 64 := by kernel_rfl
theorem info32b : (Try.prog.info? 78).map (·.size) = some 32 := by kernel_rfl
theorem infoW : (Try.prog.info? 91).map (·.size) = some 1 := by kernel_rfl
theorem infoU8 : (Try.prog.info? 5).map (·.size) = some 1 := by kernel_rfl
end Go.Proofs.Ytakmeipmngeilaa.SH
