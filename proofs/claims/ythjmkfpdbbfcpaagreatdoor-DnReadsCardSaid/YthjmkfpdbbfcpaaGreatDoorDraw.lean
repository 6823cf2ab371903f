/-
  Regions that draw their order: an operation that only reads may be taken first, if what it reads is untouched by every operation that does not wait for it. Over any program.
-/
import Derived.Test.YthjmkfpdbbfcpaaGreatDoorKit
set_option linter.unusedVariables false
set_option linter.unusedSimpArgs false
namespace Go.Proofs.YthjmkfpdbbfcpaaGreatDoor.K
set_option maxRecDepth 100000
open Go.RowKit
section
variable {P : Program} {ops : Array Oper} {Q : Exit → Act → World → Prop} {md : Region.Mode}

/-- What may have to hold still: (k, S): operation k may not have been carried out yet, and reads what S says. -/
abbrev Facts := List (Nat × (World → Prop))
def Facts.hold (R : Facts) (w : World) : Prop := ∀ p ∈ R, p.2 w
/-- Behind operation j: those that j does not wait for. -/
def Facts.past (md : Region.Mode) (ops : Array Oper) (R : Facts) (j : Nat) : Facts := R.filter fun p => p.1 != j && !Region.waitsFor md ops j p.1

def wpD (P : Program) (md : Region.Mode) (ops : Array Oper) (Q : Exit → Act → World → Prop) : Facts → Nat → Array Bool → Act → World → Prop
  | _, 0, listed, a, w => Region.ready md ops listed = [] ∧ Q .normal a w
  | R, fuel + 1, listed, a, w =>
    (Region.ready md ops listed = [] → Q .normal a w) ∧
    ∀ j ∈ Region.ready md ops listed, wpOp P ops Q j (fun a' w' => (R.past md ops j).hold w' ∧ wpD P md ops Q (R.past md ops j) fuel (listed.setIfInBounds j true) a' w') a w

theorem wpD_any : ∀ (fuel : Nat) (R : Facts) (listed : Array Bool) (a : Act) (w : World), wpD P md ops Q R fuel listed a w → wpAny P md ops Q fuel listed a w
  | 0, _, _, _, _, h => h
  | fuel + 1, _, _, _, _, h => ⟨h.1, fun i hi => wpOp_mono (fun a' w' h' => wpD_any fuel _ _ a' w' h'.2) (h.2 i hi)⟩

theorem past_sub {R R' : Facts} (h : ∀ p ∈ R', p ∈ R) (j : Nat) : ∀ p ∈ R'.past md ops j, p ∈ R.past md ops j := fun p hp => by
  obtain ⟨h1, h2⟩ := List.mem_filter.1 hp
  exact List.mem_filter.2 ⟨h p h1, h2⟩

theorem wpD_sub : ∀ (fuel : Nat) (R R' : Facts) (listed : Array Bool) (a : Act) (w : World), (∀ p ∈ R', p ∈ R) → wpD P md ops Q R fuel listed a w → wpD P md ops Q R' fuel listed a w
  | 0, _, _, _, _, _, _, h => h
  | fuel + 1, _, _, _, _, _, hs, h => ⟨h.1, fun j hj => wpOp_mono (fun a' w' h' => ⟨fun p hp => h'.1 p (past_sub hs j p hp), wpD_sub fuel _ _ _ a' w' (past_sub hs j) h'.2⟩) (h.2 j hj)⟩

theorem wpD_first {i : Nat} {oi : Oper} {v : Value} {S : World → Prop} (hi : ops[i]? = some oi) (hsel : ∀ (j : Nat) (o : Oper) cs b, ops[j]? = some o → o.op ≠ .select cs b)
    (hQ : ∀ c a w, Q (.panic c) (a.put oi.dst v) w → Q (.panic c) a w) :
    ∀ (fuel : Nat) (R : Facts) (listed : Array Bool) (a : Act) (w : World), ((i, S) ∈ R ∨ ∀ w, S w) →
      (∀ j oj, ops[j]? = some oj → j ≠ i → listed.getD j true = false → (∀ e ∈ oj.after, Region.binds md e = true → e.on ≠ i) → oi.apart ops oj = true) →
      i ∈ Region.ready md ops listed → YieldsIf P ops S oi v a → R.hold w →
      wpD P md ops Q R fuel (listed.setIfInBounds i true) (a.put oi.dst v) w → wpD P md ops Q R (fuel + 1) listed a w := by
  intro fuel
  induction fuel with
  | zero =>
    intro R listed a w hR _ hr hy hS H
    refine ⟨fun h => (by rw [h] at hr; cases hr), fun j hj => ?_⟩
    by_cases hji : j = i
    · subst hji
      exact hy.wpOp hi (hR.elim (fun h => hS _ h) (fun h => h w)) ⟨fun p hp => hS p (List.mem_filter.1 hp).1, H⟩
    · have := ready_mono hj hji
      rw [H.1] at this
      cases this
  | succ fuel ih =>
    intro R listed a w hR hfree hr hy hS H
    refine ⟨fun h => (by rw [h] at hr; cases hr), fun j hj => ?_⟩
    by_cases hji : j = i
    · subst hji
      exact hy.wpOp hi (hR.elim (fun h => hS _ h) (fun h => h w)) ⟨fun p hp => hS p (List.mem_filter.1 hp).1, wpD_sub _ _ _ _ _ _ (fun p hp => (List.mem_filter.1 hp).1) H⟩
    · have h1 := H.2 j (ready_mono hj hji)
      obtain ⟨hjun, oj, hoj, hall⟩ := mem_ready.1 hj
      have hnot : ∀ e ∈ oj.after, Region.binds md e = true → e.on ≠ i := fun e he hb heq => by
        have h1 := hall e he hb
        have h0 := (mem_ready.1 hr).1
        rw [heq] at h1
        rcases Nat.lt_or_ge i listed.size with h' | h'
        · simp [h'] at h0 h1; rw [h0] at h1; cases h1
        · simp [Array.getElem?_eq_none h'] at h1
      have hw : Region.waitsFor md ops j i = false := by
        cases hc : Region.waitsFor md ops j i with
        | false => rfl
        | true =>
          obtain ⟨oj', hoj', e, he, hb, hon⟩ := Region.waitsFor_spec hc
          rw [hoj] at hoj'
          cases hoj'
          exact absurd hon (hnot e he hb)
      have hR' : (i, S) ∈ R.past md ops j ∨ ∀ w, S w := hR.imp (fun h => List.mem_filter.2 ⟨h, by simp [hw, Ne.symm hji]⟩) id
      have h2 := wpOp_putIf hoj (hfree j oj hoj hji hjun hnot) (fun cs b => hsel i oi cs b hi) (fun cs b => hsel j oj cs b hoj) hQ hy h1
      have hfree' : ∀ k ok, ops[k]? = some ok → k ≠ i → (listed.setIfInBounds j true).getD k true = false →
          (∀ e ∈ ok.after, Region.binds md e = true → e.on ≠ i) → oi.apart ops ok = true := fun k ok hk hki hun hno => by
        refine hfree k ok hk hki ?_ hno
        by_cases hjk : j = k
        · subst hjk; exact hjun
        · rw [getD_set_ne true hjk] at hun; exact hun
      refine wpOp_mono (fun a' w' h3 => ⟨h3.2.1, ih _ (listed.setIfInBounds j true) a' w' hR' hfree' (ready_mono hr (Ne.symm hji)) h3.1 h3.2.1 ?_⟩) h2
      rw [Array.setIfInBounds_comm _ _ hji]
      exact h3.2.2

theorem at_drop {i : Nat} {oi : Oper} (h : (ops.toList.drop i).head? = some oi) : ops[i]? = some oi := by
  rw [List.head?_drop] at h
  simpa using h
/-- The beginning. -/
theorem wpD_region {id : Nat} {a : Act} {w : World} {R : Facts} (_hold : R.hold w.drew) (hm : P.follows .mixedOrders = true) (n : Nat) (hn : ops.size = n)
    (h : wpD P .any ops Q R n (Array.replicate n false) a w.drew) : (Code.region id ops true).wp P Q a w := by
  subst hn
  exact wp_region_any hm (wpD_any _ _ _ _ _ h)
/-- Operation i, which reads, is taken first. -/
theorem wpD_take (i : Nat) {oi : Oper} {v : Value} (S : World → Prop) {R : Facts} {fuel : Nat} {listed : Array Bool} {a : Act} {w : World} (hi : (ops.toList.drop i).head? = some oi)
    (hs : Region.noSelect ops = true) (hf : Region.free md ops listed i = true) (hr : (Region.ready md ops listed).contains i = true) (hQ : ∀ c a w, Q (.panic c) (a.put oi.dst v) w → Q (.panic c) a w)
    (hR : (i, S) ∈ R) (hg : Region.wanted oi (yielded ops a.tmps) = true) (hy : ∀ w, S w → (execOp a.eval oi).run P w = .ok (.value v) w) (hS : R.hold w)
    (h : wpD P md ops Q R fuel (listed.setIfInBounds i true) (a.put oi.dst v) w) : wpD P md ops Q R (fuel + 1) listed a w :=
  wpD_first (at_drop hi) (Region.noSelect_spec hs) hQ fuel R listed a w (.inl hR) (Region.free_spec (at_drop hi) hf) (by simpa using hr) (.inl ⟨hg, hy⟩) hS h
/-- Operation i, which asks nothing of the world, is taken first. -/
theorem wpD_plain (i : Nat) {oi : Oper} {v : Value} {R : Facts} {fuel : Nat} {listed : Array Bool} {a : Act} {w : World} (hi : (ops.toList.drop i).head? = some oi)
    (hs : Region.noSelect ops = true) (hf : Region.free md ops listed i = true) (hr : (Region.ready md ops listed).contains i = true) (hQ : ∀ c a w, Q (.panic c) (a.put oi.dst v) w → Q (.panic c) a w)
    (hg : Region.wanted oi (yielded ops a.tmps) = true) (hy : ∀ w, (execOp a.eval oi).run P w = .ok (.value v) w) (hS : R.hold w)
    (h : wpD P md ops Q R fuel (listed.setIfInBounds i true) (a.put oi.dst v) w) : wpD P md ops Q R (fuel + 1) listed a w :=
  wpD_first (S := fun _ => True) (at_drop hi) (Region.noSelect_spec hs) hQ fuel R listed a w (.inr fun _ => trivial) (Region.free_spec (at_drop hi) hf) (by simpa using hr) (.inl ⟨hg, fun w _ => hy w⟩) hS h
/-- Operation i alone may come up. -/
theorem wpD_only (i : Nat) {oi : Oper} {R : Facts} (R' : Facts) {fuel : Nat} {listed : Array Bool} {a : Act} {w : World} (hi : (ops.toList.drop i).head? = some oi) (hr : Region.ready md ops listed = [i]) (hR : R.past md ops i = R')
    (hg : Region.wanted oi (yielded ops a.tmps) = true)
    (h : ∀ K : Act → World → Prop, (∀ a' w', R'.hold w' → wpD P md ops Q R' fuel (listed.setIfInBounds i true) a' w' → K a' w') → oi.wp P a w K Q) : wpD P md ops Q R (fuel + 1) listed a w := by
  refine ⟨fun h0 => (by rw [hr] at h0; cases h0), fun j hj => ?_⟩
  rw [hr] at hj
  obtain rfl := List.mem_singleton.1 hj
  unfold wpOp
  simp only [at_drop hi, hg, if_true]
  rw [hR]
  exact .inl (h _ fun a' w' h1 h2 => ⟨h1, h2⟩)
/-- All have come up. -/
theorem wpD_done {R : Facts} {listed : Array Bool} {a : Act} {w : World} (hr : Region.ready md ops listed = []) (h : Q .normal a w) : ∀ fuel, wpD P md ops Q R fuel listed a w
  | 0 => ⟨hr, h⟩
  | _ + 1 => ⟨fun _ => h, by rw [hr]; simp⟩
theorem Facts.nil_hold (w : World) : Facts.hold [] w := fun _ h => by cases h
theorem Facts.cons_hold {k : Nat} {S : World → Prop} {R : Facts} {w : World} (h : S w) (hr : Facts.hold R w) : Facts.hold ((k, S) :: R) w := fun p hp => by
  rcases List.mem_cons.1 hp with rfl | hp
  · exact h
  · exact hr p hp

/-! ### Operations at 'Oper.wp' -/
variable {op : Oper} {a : Act} {w : World} {K : Act → World → Prop}
/-- A whole array or struct is read: as one operation of a region. -/
theorem exec_load (ty : TypeId) (x : Operand) (ho : op.op = .load ty x) (b o : Nat) (hx : a.eval x = .pointer (some ⟨b, o, none⟩)) (cs : List Value) (d : TypeDesc)
    (hu : P.underlying ty = some d) (hd : d.isRow = true) (hi : (P.info? ty).map (·.size) = some cs.length) : ∀ w : World, w.rangeAt b o cs → (execOp a.eval op).run P w = .ok (.value (.agg cs.toArray)) w := by
  intro w hc
  unfold execOp
  simp only [ho, hx, Instr.loadAt, Instr.sureAddr, Sem.run_bind, Sem.run_pure, Result.andThen_ok, run_loadVar_mid w b o ty cs d hc hu hd hi]
/-- A whole array or struct is stored into a block that is known. -/
theorem wp_storeB (ty : TypeId) (x y : Operand) (ho : op.op = .store ty x y) (b o : Nat) (vs : List Value) (hx : a.eval x = .pointer (some ⟨b, o, none⟩)) (hy : a.eval y = .agg vs.toArray)
    (t : TypeId) (cs : List Value) (hB : Blk w b t cs) (hle : o + vs.length ≤ cs.length) (hi : (P.info? ty).map (·.size) = some vs.length) (h1 : ∀ v ∈ vs, v.oneCell' = true)
    (h : ∀ w', Hid (Blk w' b t (spl cs o vs)) → Hid (Fr (fun k => k = b) w w') → Hid (w'.heap.size = w.heap.size) → K (a.put op.dst undef) w') : op.wp P a w K Q :=
  wp_store_mid ty x y ho b o vs.toArray hx hy (by simpa using hB.there o vs.length hle) (by simpa using hi) (by simpa using h1)
    (h _ (hid (by simpa using hB.sets vs o hle)) (hid (by simpa using (Fr.refl (fun k => k = b) w).setCells b o vs.toArray.toList (.inl rfl))) (hid (by simp)))
/-- A slice literal, each place written in order. -/
theorem run_buildAll (t e : TypeId) (vs : List Value) (i : TypeInfo) (z : Value) (hu : P.underlying t = some (.slice e)) (hi : P.info? e = some i) (hz : i.zero = some z) (hs0 : 0 < i.size) (hs1 : vs.length * i.size ≤ 16777216) (hv0 : 0 < vs.length)
    (hv : ∀ v ∈ vs, v.cells.size = i.size) (w : World) : (Instr.buildSlice t vs.length ((vs.zipIdx 0).map fun x => (x.2, x.1)).toArray).run P w =
      .ok (.slice (some ⟨w.heap.size, 0, none⟩) vs.length vs.length) (w.alloc (.cells (vs.flatMap fun v => v.cells.toList).toArray e)) :=
  run_buildSlice w t e vs.length _ _ i z hu hi hz (by omega) (by have := Nat.mul_pos hv0 hs0; omega) (by simpa using Great.fill_whole hs0 vs _ hv (by simp))
/-- A slice literal of one element. -/
theorem wp_buildOne (t e : TypeId) (x : Operand) (ho : op.op = .buildSlice t 1 #[(0, x)]) (i : TypeInfo) (z : Value) (hu : P.underlying t = some (.slice e)) (hi : P.info? e = some i) (hz : i.zero = some z) (hs0 : 0 < i.size) (hs1 : i.size ≤ 16777216)
    (v : Value) (cs : List Value) (hv : a.eval x = v) (hcs : v.cells = cs.toArray) (hl : cs.length = i.size)
    (h : ∀ w', Hid (Blk w' w.heap.size e cs) → Hid (Fr No w w') → Hid (w'.heap.size = w.heap.size + 1) → K (a.put op.dst (.slice (some ⟨w.heap.size, 0, none⟩) 1 1)) w') : op.wp P a w K Q := by
  have hrun := run_buildAll (P := P) t e [v] i z hu hi hz hs0 (by simpa using hs1) (by simp) (by simp [hcs, hl]) w
  simp only [List.zipIdx_cons, List.zipIdx_nil, List.map_cons, List.map_nil, List.length_singleton, List.flatMap_cons, List.flatMap_nil, List.append_nil, hcs] at hrun
  unfold Oper.wp
  simp [execOp, ho, hv, hrun, Result.andThen]
  exact h _ (hid (Blk.new _ _ _)) (hid ((Fr.refl _ _).alloc _)) (hid (by simp))
end
/-- The same at the list of a plain region. -/
theorem wpL_buildOne {P : Program} {ops : Array Oper} {rest : List Oper} {op : Oper} {a : Act} {w : World} {Q : Exit → Act → World → Prop} (hgd : op.guard = none) (t e : TypeId) (x : Operand) (ho : op.op = .buildSlice t 1 #[(0, x)]) (i : TypeInfo) (z : Value)
    (hu : P.underlying t = some (.slice e)) (hi : P.info? e = some i) (hz : i.zero = some z) (hs0 : 0 < i.size) (hs1 : i.size ≤ 16777216)
    (v : Value) (cs : List Value) (hv : a.eval x = v) (hcs : v.cells = cs.toArray) (hl : cs.length = i.size)
    (h : ∀ w', Hid (Blk w' w.heap.size e cs) → Hid (Fr No w w') → Hid (w'.heap.size = w.heap.size + 1) → wpList P ops Q rest (a.put op.dst (.slice (some ⟨w.heap.size, 0, none⟩) 1 1)) w') : wpList P ops Q (op :: rest) a w :=
  wpList_plain hgd fun _ hK => wp_buildOne t e x ho i z hu hi hz hs0 hs1 v cs hv hcs hl fun w' h1 h2 h3 => hK _ _ (h w' h1 h2 h3)
end Go.Proofs.YthjmkfpdbbfcpaaGreatDoor.K
