/-
  Part 1 of the proof: Draw, Conv, Call, BeO, BeP, BeN, BeRow.
-/
import Derived.Test.YthjmkfpdbbfcpaaMk00
import Derived.Laws.IdiomStrings
import Derived.Lib.AppendStr
import Derived.Test.YthjmkfpdbbfcpaaChecked
import Derived.Defers
import Derived.Recover
import Derived.Test.YthjmkfpdbbfcpaaRows
import Derived.WalkKit
import Derived.ProofKit
import Derived.OpenShut
import Derived.ChangeOld
import Derived.Below
import Derived.SizedLaws
set_option linter.unusedSimpArgs false
set_option linter.unusedVariables false
namespace Go.Proofs.Ythjmkfpdbbfcpaa.K
set_option maxRecDepth 100000
open Go.RowKit
section
variable {P : Program} {ops : Array Oper} {Q : Exit → Act → World → Prop} {md : Region.Mode}

/-- What may have to hold still: (k, S): operation k may not have been carried out yet, and reads what S says. -/
abbrev Facts := List (Nat × (World → Prop))
def Facts.hold (R : Facts) (w : World) : Prop := ∀ p ∈ R, p.2 w
/-- Behind operation j: those that j does not wait for. -/
def Facts.past (md : Region.Mode) (ops : Array Oper) (R : Facts) (j : Nat) : Facts := R.filter fun p => p.1 != j && !Region.waitsFor md ops j p.1

def wpD (P : Program) (md : Region.Mode) (ops : Array Oper) (Q : Exit → Act → World → Prop) : Facts → Nat → Array Bool → Act → World → Prop
  | _, 0, listed, a, w => Region.ready md ops listed = [] ∧ Q .normal a w
  | R, fuel + 1, listed, a, w =>
    (Region.ready md ops listed = [] → Q .normal a w) ∧
    ∀ j ∈ Region.ready md ops listed, wpOp P ops Q j (fun a' w' => (R.past md ops j).hold w' ∧ wpD P md ops Q (R.past md ops j) fuel (listed.setIfInBounds j true) a' w') a w

theorem wpD_any : ∀ (fuel : Nat) (R : Facts) (listed : Array Bool) (a : Act) (w : World), wpD P md ops Q R fuel listed a w → wpAny P md ops Q fuel listed a w
  | 0, _, _, _, _, h => h
  | fuel + 1, _, _, _, _, h => ⟨h.1, fun i hi => wpOp_mono (fun a' w' h' => wpD_any fuel _ _ a' w' h'.2) (h.2 i hi)⟩

theorem past_sub {R R' : Facts} (h : ∀ p ∈ R', p ∈ R) (j : Nat) : ∀ p ∈ R'.past md ops j, p ∈ R.past md ops j := fun p hp => by
  obtain ⟨h1, h2⟩ := List.mem_filter.1 hp
  exact List.mem_filter.2 ⟨h p h1, h2⟩

theorem wpD_sub : ∀ (fuel : Nat) (R R' : Facts) (listed : Array Bool) (a : Act) (w : World), (∀ p ∈ R', p ∈ R) → wpD P md ops Q R fuel listed a w → wpD P md ops Q R' fuel listed a w
  | 0, _, _, _, _, _, _, h => h
  | fuel + 1, _, _, _, _, _, hs, h => ⟨h.1, fun j hj => wpOp_mono (fun a' w' h' => ⟨fun p hp => h'.1 p (past_sub hs j p hp), wpD_sub fuel _ _ _ a' w' (past_sub hs j) h'.2⟩) (h.2 j hj)⟩

theorem wpD_first {i : Nat} {oi : Oper} {v : Value} {S : World → Prop} (hi : ops[i]? = some oi) (hsel : ∀ (j : Nat) (o : Oper) cs b, ops[j]? = some o → o.op ≠ .select cs b)
    (hQ : ∀ c a w, Q (.panic c) (a.put oi.dst v) w → Q (.panic c) a w) :
    ∀ (fuel : Nat) (R : Facts) (listed : Array Bool) (a : Act) (w : World), ((i, S) ∈ R ∨ ∀ w, S w) →
      (∀ j oj, ops[j]? = some oj → j ≠ i → listed.getD j true = false → (∀ e ∈ oj.after, Region.binds md e = true → e.on ≠ i) → oi.apart ops oj = true) →
      i ∈ Region.ready md ops listed → YieldsIf P ops S oi v a → R.hold w →
      wpD P md ops Q R fuel (listed.setIfInBounds i true) (a.put oi.dst v) w → wpD P md ops Q R (fuel + 1) listed a w := by
  intro fuel
  induction fuel with
  | zero =>
    intro R listed a w hR _ hr hy hS H
    refine ⟨fun h => (by rw [h] at hr; cases hr), fun j hj => ?_⟩
    by_cases hji : j = i
    · subst hji
      exact hy.wpOp hi (hR.elim (fun h => hS _ h) (fun h => h w)) ⟨fun p hp => hS p (List.mem_filter.1 hp).1, H⟩
    · have := ready_mono hj hji
      rw [H.1] at this
      cases this
  | succ fuel ih =>
    intro R listed a w hR hfree hr hy hS H
    refine ⟨fun h => (by rw [h] at hr; cases hr), fun j hj => ?_⟩
    by_cases hji : j = i
    · subst hji
      exact hy.wpOp hi (hR.elim (fun h => hS _ h) (fun h => h w)) ⟨fun p hp => hS p (List.mem_filter.1 hp).1, wpD_sub _ _ _ _ _ _ (fun p hp => (List.mem_filter.1 hp).1) H⟩
    · have h1 := H.2 j (ready_mono hj hji)
      obtain ⟨hjun, oj, hoj, hall⟩ := mem_ready.1 hj
      have hnot : ∀ e ∈ oj.after, Region.binds md e = true → e.on ≠ i := fun e he hb heq => by
        have h1 := hall e he hb
        have h0 := (mem_ready.1 hr).1
        rw [heq] at h1
        rcases Nat.lt_or_ge i listed.size with h' | h'
        · simp [h'] at h0 h1; rw [h0] at h1; cases h1
        · simp [Array.getElem?_eq_none h'] at h1
      have hw : Region.waitsFor md ops j i = false := by
        cases hc : Region.waitsFor md ops j i with
        | false => rfl
        | true =>
          obtain ⟨oj', hoj', e, he, hb, hon⟩ := Region.waitsFor_spec hc
          rw [hoj] at hoj'
          cases hoj'
          exact absurd hon (hnot e he hb)
      have hR' : (i, S) ∈ R.past md ops j ∨ ∀ w, S w := hR.imp (fun h => List.mem_filter.2 ⟨h, by simp [hw, Ne.symm hji]⟩) id
      have h2 := wpOp_putIf hoj (hfree j oj hoj hji hjun hnot) (fun cs b => hsel i oi cs b hi) (fun cs b => hsel j oj cs b hoj) hQ hy h1
      have hfree' : ∀ k ok, ops[k]? = some ok → k ≠ i → (listed.setIfInBounds j true).getD k true = false →
          (∀ e ∈ ok.after, Region.binds md e = true → e.on ≠ i) → oi.apart ops ok = true := fun k ok hk hki hun hno => by
        refine hfree k ok hk hki ?_ hno
        by_cases hjk : j = k
        · subst hjk; exact hjun
        · rw [getD_set_ne true hjk] at hun; exact hun
      refine wpOp_mono (fun a' w' h3 => ⟨h3.2.1, ih _ (listed.setIfInBounds j true) a' w' hR' hfree' (ready_mono hr (Ne.symm hji)) h3.1 h3.2.1 ?_⟩) h2
      rw [Array.setIfInBounds_comm _ _ hji]
      exact h3.2.2

theorem at_drop {i : Nat} {oi : Oper} (h : (ops.toList.drop i).head? = some oi) : ops[i]? = some oi := by
  rw [List.head?_drop] at h
  simpa using h
/-- The beginning. -/
theorem wpD_region {id : Nat} {a : Act} {w : World} {R : Facts} (_hold : R.hold w.drew) (hm : P.follows .mixedOrders = true) (n : Nat) (hn : ops.size = n)
    (h : wpD P .any ops Q R n (Array.replicate n false) a w.drew) : (Code.region id ops true).wp P Q a w := by
  subst hn
  exact wp_region_any hm (wpD_any _ _ _ _ _ h)
/-- Operation i, which reads, is taken first. -/
theorem wpD_take (i : Nat) {oi : Oper} {v : Value} (S : World → Prop) {R : Facts} {fuel : Nat} {listed : Array Bool} {a : Act} {w : World} (hi : (ops.toList.drop i).head? = some oi)
    (hs : Region.noSelect ops = true) (hf : Region.free md ops listed i = true) (hr : (Region.ready md ops listed).contains i = true) (hQ : ∀ c a w, Q (.panic c) (a.put oi.dst v) w → Q (.panic c) a w)
    (hR : (i, S) ∈ R) (hg : Region.wanted oi (yielded ops a.tmps) = true) (hy : ∀ w, S w → (execOp a.eval oi).run P w = .ok (.value v) w) (hS : R.hold w)
    (h : wpD P md ops Q R fuel (listed.setIfInBounds i true) (a.put oi.dst v) w) : wpD P md ops Q R (fuel + 1) listed a w :=
  wpD_first (at_drop hi) (Region.noSelect_spec hs) hQ fuel R listed a w (.inl hR) (Region.free_spec (at_drop hi) hf) (by simpa using hr) (.inl ⟨hg, hy⟩) hS h
/-- Operation i, which asks nothing of the world, is taken first. -/
theorem wpD_plain (i : Nat) {oi : Oper} {v : Value} {R : Facts} {fuel : Nat} {listed : Array Bool} {a : Act} {w : World} (hi : (ops.toList.drop i).head? = some oi)
    (hs : Region.noSelect ops = true) (hf : Region.free md ops listed i = true) (hr : (Region.ready md ops listed).contains i = true) (hQ : ∀ c a w, Q (.panic c) (a.put oi.dst v) w → Q (.panic c) a w)
    (hg : Region.wanted oi (yielded ops a.tmps) = true) (hy : ∀ w, (execOp a.eval oi).run P w = .ok (.value v) w) (hS : R.hold w)
    (h : wpD P md ops Q R fuel (listed.setIfInBounds i true) (a.put oi.dst v) w) : wpD P md ops Q R (fuel + 1) listed a w :=
  wpD_first (S := fun _ => True) (at_drop hi) (Region.noSelect_spec hs) hQ fuel R listed a w (.inr fun _ => trivial) (Region.free_spec (at_drop hi) hf) (by simpa using hr) (.inl ⟨hg, fun w _ => hy w⟩) hS h
/-- Operation i alone may come up. -/
theorem wpD_only (i : Nat) {oi : Oper} {R : Facts} (R' : Facts) {fuel : Nat} {listed : Array Bool} {a : Act} {w : World} (hi : (ops.toList.drop i).head? = some oi) (hr : Region.ready md ops listed = [i]) (hR : R.past md ops i = R')
    (hg : Region.wanted oi (yielded ops a.tmps) = true)
    (h : ∀ K : Act → World → Prop, (∀ a' w', R'.hold w' → wpD P md ops Q R' fuel (listed.setIfInBounds i true) a' w' → K a' w') → oi.wp P a w K Q) : wpD P md ops Q R (fuel + 1) listed a w := by
  refine ⟨fun h0 => (by rw [hr] at h0; cases h0), fun j hj => ?_⟩
  rw [hr] at hj
  obtain rfl := List.mem_singleton.1 hj
  unfold wpOp
  simp only [at_drop hi, hg, if_true]
  rw [hR]
  exact .inl (h _ fun a' w' h1 h2 => ⟨h1, h2⟩)
/-- All have come up. -/
theorem wpD_done {R : Facts} {listed : Array Bool} {a : Act} {w : World} (hr : Region.ready md ops listed = []) (h : Q .normal a w) : ∀ fuel, wpD P md ops Q R fuel listed a w
  | 0 => ⟨hr, h⟩
  | _ + 1 => ⟨fun _ => h, by rw [hr]; simp⟩
theorem Facts.nil_hold (w : World) : Facts.hold [] w := fun _ h => by cases h
theorem Facts.cons_hold {k : Nat} {S : World → Prop} {R : Facts} {w : World} (h : S w) (hr : Facts.hold R w) : Facts.hold ((k, S) :: R) w := fun p hp => by
  rcases List.mem_cons.1 hp with rfl | hp
  · exact h
  · exact hr p hp

/-! ### Operations at 'Oper.wp' -/
variable {op : Oper} {a : Act} {w : World} {K : Act → World → Prop}
/-- A whole array or struct is read: as one operation of a region. -/
theorem exec_load (ty : TypeId) (x : Operand) (ho : op.op = .load ty x) (b o : Nat) (hx : a.eval x = .pointer (some ⟨b, o, none⟩)) (cs : List Value) (d : TypeDesc)
    (hu : P.underlying ty = some d) (hd : d.isRow = true) (hi : (P.info? ty).map (·.size) = some cs.length) : ∀ w : World, w.rangeAt b o cs → (execOp a.eval op).run P w = .ok (.value (.agg cs.toArray)) w := by
  intro w hc
  unfold execOp
  simp only [ho, hx, Instr.loadAt, Instr.sureAddr, Sem.run_bind, Sem.run_pure, Result.andThen_ok, run_loadVar_mid w b o ty cs d hc hu hd hi]
/-- A slice literal, each place written in order. -/
theorem run_buildAll (t e : TypeId) (vs : List Value) (i : TypeInfo) (z : Value) (hu : P.underlying t = some (.slice e)) (hi : P.info? e = some i) (hz : i.zero = some z) (hs0 : 0 < i.size) (hs1 : vs.length * i.size ≤ 16777216) (hv0 : 0 < vs.length)
    (hv : ∀ v ∈ vs, v.cells.size = i.size) (w : World) : (Instr.buildSlice t vs.length ((vs.zipIdx 0).map fun x => (x.2, x.1)).toArray).run P w =
      .ok (.slice (some ⟨w.heap.size, 0, none⟩) vs.length vs.length) (w.alloc (.cells (vs.flatMap fun v => v.cells.toList).toArray e)) :=
  run_buildSlice w t e vs.length _ _ i z hu hi hz (by omega) (by have := Nat.mul_pos hv0 hs0; omega) (by simpa using Great.fill_whole hs0 vs _ hv (by simp))
/-- A slice literal of one element. -/
theorem wp_buildOne (t e : TypeId) (x : Operand) (ho : op.op = .buildSlice t 1 #[(0, x)]) (i : TypeInfo) (z : Value) (hu : P.underlying t = some (.slice e)) (hi : P.info? e = some i) (hz : i.zero = some z) (hs0 : 0 < i.size) (hs1 : i.size ≤ 16777216)
    (v : Value) (cs : List Value) (hv : a.eval x = v) (hcs : v.cells = cs.toArray) (hl : cs.length = i.size)
    (h : ∀ w', Hid (Blk w' w.heap.size e cs) → Hid (Fr No w w') → Hid (w'.heap.size = w.heap.size + 1) → K (a.put op.dst (.slice (some ⟨w.heap.size, 0, none⟩) 1 1)) w') : op.wp P a w K Q := by
  have hrun := run_buildAll (P := P) t e [v] i z hu hi hz hs0 (by simpa using hs1) (by simp) (by simp [hcs, hl]) w
  simp only [List.zipIdx_cons, List.zipIdx_nil, List.map_cons, List.map_nil, List.length_singleton, List.flatMap_cons, List.flatMap_nil, List.append_nil, hcs] at hrun
  unfold Oper.wp
  simp [execOp, ho, hv, hrun, Result.andThen]
  exact h _ (hid (Blk.new _ _ _)) (hid ((Fr.refl _ _).alloc _)) (hid (by simp))
end
/-- The same at the list of a plain region. -/
theorem wpL_buildOne {P : Program} {ops : Array Oper} {rest : List Oper} {op : Oper} {a : Act} {w : World} {Q : Exit → Act → World → Prop} (hgd : op.guard = none) (t e : TypeId) (x : Operand) (ho : op.op = .buildSlice t 1 #[(0, x)]) (i : TypeInfo) (z : Value)
    (hu : P.underlying t = some (.slice e)) (hi : P.info? e = some i) (hz : i.zero = some z) (hs0 : 0 < i.size) (hs1 : i.size ≤ 16777216)
    (v : Value) (cs : List Value) (hv : a.eval x = v) (hcs : v.cells = cs.toArray) (hl : cs.length = i.size)
    (h : ∀ w', Hid (Blk w' w.heap.size e cs) → Hid (Fr No w w') → Hid (w'.heap.size = w.heap.size + 1) → wpList P ops Q rest (a.put op.dst (.slice (some ⟨w.heap.size, 0, none⟩) 1 1)) w') : wpList P ops Q (op :: rest) a w :=
  wpList_plain hgd fun _ hK => wp_buildOne t e x ho i z hu hi hz hs0 hs1 v cs hv hcs hl fun w' h1 h2 h3 => hK _ _ (h w' h1 h2 h3)
end Go.Proofs.Ythjmkfpdbbfcpaa.K

namespace Go.Proofs.Ythjmkfpdbbfcpaa.K
set_option maxRecDepth 100000
open Go.RowKit

section
variable {P : Program} {ops : Array Oper} {rest : List Oper} {op : Oper} {a : Act} {w : World} {Q : Exit → Act → World → Prop}
/-- 'string(b)'. -/
theorem wpL_stringOf (hgd : op.guard = none) (src dst e : TypeId) (x : Operand) (ho : op.op = .convert src dst x) (v : Value) (E : Nat → Prop) (l : List UInt8) (hx : a.eval x = v) (hb : BytesIn w E v l)
    (hs : P.underlying src = some (.slice e)) (he : P.underlying e = some (.int .u8)) (hd : P.underlying dst = some .string)
    (h : wpList P ops Q rest (a.put op.dst (.string ⟨l.toArray⟩)) w) : wpList P ops Q (op :: rest) a w := by
  refine wpList_plain hgd fun K hK => ?_
  obtain ⟨ad, len, cap, rfl, rfl, _, h3⟩ := hb
  have hrun : (convert src dst (.slice ad l.length cap)).run P w = .ok (.string ⟨l.toArray⟩) w := by
    cases ad with
    | none =>
      have h0 : l = [] := List.eq_nil_of_length_eq_zero (h3.elim id fun ⟨g, o, h4, _⟩ => by cases h4)
      subst h0
      rw [run_convert_bytes_string w src dst e none _ cap hs he hd]
      rfl
    | some ad =>
      refine run_convert_bytes_back w src dst e ad cap l hs he hd fun j hj => ?_
      obtain ⟨g, o, h4, _, _, h5⟩ := h3.resolve_left (by omega)
      cases h4
      rw [Addr.add_mid]
      exact h5 j _ (u8s_get l j hj)
  unfold Oper.wp
  simp [execOp, ho, hx, hrun, Result.andThen]
  exact hK _ _ h
end
end Go.Proofs.Ythjmkfpdbbfcpaa.K

namespace Go.Proofs.Ythjmkfpdbbfcpaa.K
set_option maxRecDepth 100000
open Go.RowKit
section
variable {P : Program} {ops : Array Oper} {Q : Exit → Act → World → Prop} {md : Region.Mode} {op : Oper} {a : Act} {w : World} {K : Act → World → Prop}

/-- Two operations may come up. -/
theorem wpD_two (i j : Nat) {oi oj : Oper} {R : Facts} (Ri Rj : Facts) {fuel : Nat} {listed : Array Bool} (hi : (ops.toList.drop i).head? = some oi) (hj : (ops.toList.drop j).head? = some oj) (hr : Region.ready md ops listed = [i, j])
    (hRi : R.past md ops i = Ri) (hRj : R.past md ops j = Rj) (gi : Region.wanted oi (yielded ops a.tmps) = true) (gj : Region.wanted oj (yielded ops a.tmps) = true)
    (h1 : ∀ K : Act → World → Prop, (∀ a' w', Ri.hold w' → wpD P md ops Q Ri fuel (listed.setIfInBounds i true) a' w' → K a' w') → oi.wp P a w K Q)
    (h2 : ∀ K : Act → World → Prop, (∀ a' w', Rj.hold w' → wpD P md ops Q Rj fuel (listed.setIfInBounds j true) a' w' → K a' w') → oj.wp P a w K Q) : wpD P md ops Q R (fuel + 1) listed a w := by
  refine ⟨fun h0 => (by rw [hr] at h0; cases h0), fun k hk => ?_⟩
  rw [hr] at hk
  rcases List.mem_cons.1 hk with rfl | hk
  · unfold wpOp
    simp only [at_drop hi, gi, if_true]
    rw [hRi]
    exact .inl (h1 _ fun a' w' h1 h2 => ⟨h1, h2⟩)
  · obtain rfl := List.mem_singleton.1 hk
    unfold wpOp
    simp only [at_drop hj, gj, if_true]
    rw [hRj]
    exact .inl (h2 _ fun a' w' h1 h2 => ⟨h1, h2⟩)
/-- A call of a function or a closure, by its contract. -/
theorem wp_call (x : Operand) (args : List Operand) (tys : Array TypeId) (ho : op.op = .call { callee := .value x, args := args.toArray, argTypes := tys }) (f : FuncId) (cap : List Value) (hx : a.eval x = .func (.func f) #[] cap.toArray)
    (hent : ∀ (vs : Array Value) (w : World), (callFunc f vs).run P w = .ok (.enter f vs) w) (vs : List Value) (hvs : args.map a.eval ++ cap = vs)
    (hc : Calls P f vs.toArray w fun e w' => ∃ v, e = .returned v ∧ K (a.put op.dst v) w') : op.wp P a w K Q := by
  unfold Oper.wp
  have e : (execOp a.eval op).run P w = .ok (.enter f vs.toArray) w := by
    have h1 := hent vs.toArray w
    rw [← hvs] at h1
    simp [execOp, ho, resolve, hx, Deferred.ofValue, invoke]
    rw [← hvs]
    simpa using h1
  rw [e]
  show Calls P f vs.toArray w _
  refine hc.mono ?_
  rintro e w' ⟨v, rfl, h⟩
  exact h
/-- Three results. -/
theorem ret_three {fn : Func} {R : Ending → World → Prop} {p q r : Tmp} (hr : fn.results = #[.tmp p, .tmp q, .tmp r]) (hdf : a.defers = [])
    (h : R (.returned (.tuple #[a.tmps.getD p undef, a.tmps.getD q undef, a.tmps.getD r undef])) w) : bodyPost P fn R .ret a w := by
  refine bodyPost_ret ?_ hdf h
  simp [results, hr]
end
end Go.Proofs.Ythjmkfpdbbfcpaa.K

namespace Go.Proofs.Ythjmkfpdbbfcpaa.BE
set_option maxRecDepth 100000
open Go.RowKit K
theorem frown {w w' : World} {row : Option Nat} (h : w.grownBy w' row) : Fr (fun k => row = some k) w w' := ⟨h.os, h.tape, h.output, h.size, fun k hk hn => h.block k hk (fun e => hn e.symm)⟩
theorem own_ge {w : World} {base : Nat} {e : TypeId} {k : Nat} {v : Value} {n : Nat} {xs : List Value} (h : w.ownsRow base e k v n xs) (g : Nat) (hg : v.ownBlock = some g) : base ≤ g ∧ g < w.heap.size := by
  rcases h.2 with ⟨rfl, _⟩ | ⟨g', cap, cur, rfl, hb, h1, -⟩
  · cases hg
  · cases hg; exact ⟨hb, (Array.getElem?_eq_some_iff.1 h1).1⟩
theorem str_cells (s : ByteArray) : Go.Lib.strCells s = u8s s.data.toList := rfl
theorem run_append_str {P : Program} {w : World} (base : Nat) (t u ty e : TypeId) (i : TypeInfo) (ht : P.underlying t = some (.slice e)) (hu : P.underlying u = some .string) (hi : P.info? e = some i) (hz : i.zero = some (.int .u8 0)) (hsize : i.size = 1) (hby : i.bytes = 1)
    (v : Value) (n : Nat) (xs : List Value) (hown : w.ownsRow base e 1 v n xs) (s : ByteArray) (h63 : n + s.size ≤ maxLen) (hbytes : n + s.size ≤ 140737488355328) (hbase : base ≤ w.heap.size) :
    ∃ a c w', (Builtin.append_ #[t, u] ty #[v, .string s]).run P w = .ok (.slice a (n + s.size) c) w' ∧ w'.ownsRow base e 1 (.slice a (n + s.size) c) (n + s.size) (xs ++ u8s s.data.toList) ∧ w.grownBy w' v.ownBlock ∧
      ((Value.slice a (n + s.size) c).ownBlock = v.ownBlock ∨ (Value.slice a (n + s.size) c).ownBlock = some w.heap.size) := by
  obtain ⟨v', w', hr, h2, h3, h4⟩ := Go.Lib.run_append_own_string (P := P) w base t u ty e i ht hu hi hz hsize hby v n xs hown s h63 hbytes hbase
  obtain ⟨a, c, rfl, -, -⟩ := own_form h2
  refine ⟨a, c, w', hr, by rw [← str_cells]; exact h2, h3, ?_⟩
  rcases hown.2 with ⟨rfl, h0⟩ | ⟨g, cap, cur, rfl, hbg, hg, hnc, hcm, hcs, htake⟩
  · by_cases hm : s.size = 0
    · have := h4.2 ⟨rfl, hm⟩
      rw [this]; exact .inl rfl
    · have hx := Go.run_append_nil_string (P := P) (w := w) t u ty e i (.int .u8 0) ht hu hi hz s (by omega) (by unfold maxLen at h63; omega) (by rw [hby]; omega)
      rw [hx] at hr
      simp only [Result.ok.injEq, Value.slice.injEq] at hr
      obtain ⟨⟨rfl, -, -⟩, -⟩ := hr
      exact .inr rfl
  · have hcs1 : cur.size = cap := by simpa using hcs
    by_cases hroom : n + s.size ≤ cap
    · have hx := Go.Lib.run_append_room_string (P := P) w t u ty e i ht hu hi hsize g n cap cur hg s hroom (by rw [hcs1]; exact hroom)
      rw [hx] at hr
      simp only [Result.ok.injEq, Value.slice.injEq] at hr
      obtain ⟨⟨rfl, -, -⟩, -⟩ := hr
      exact .inl rfl
    · have hx := Go.Lib.run_append_grow_string (P := P) w t u ty e i (.int .u8 0) ht hu hi hz ⟨g, 0, none⟩ n cap xs (by rw [hsize]; simpa using hown.1) (hown.cells (g := g) rfl) s (by omega) (by unfold maxLen at h63; omega) (by rw [hby]; exact growslice_fits (by omega) (by omega))
      rw [hx] at hr
      simp only [Result.ok.injEq, Value.slice.injEq] at hr
      obtain ⟨⟨rfl, -, -⟩, -⟩ := hr
      exact .inr rfl

theorem wp_appendStr {P : Program} {op : Oper} {a : Act} {w : World} {K : Act → World → Prop} {Q : Exit → Act → World → Prop} (s x : Operand) (t u : TypeId) (ho : op.op = .call { callee := .builtin .append, args := #[s, x], argTypes := #[t, u] })
    (base : Nat) (e : TypeId) (i : TypeInfo) (ht : P.underlying t = some (.slice e)) (hu : P.underlying u = some .string) (hi : P.info? e = some i) (hz : i.zero = some (.int .u8 0)) (hsize : i.size = 1) (hby : i.bytes = 1)
    (v : Value) (n : Nat) (xs : List Value) (hv : a.eval s = v) (hown : w.ownsRow base e 1 v n xs) (str : ByteArray) (hx : a.eval x = .string str) (h63 : n + str.size ≤ maxLen) (hbytes : n + str.size ≤ 140737488355328) (hbase : base ≤ w.heap.size)
    (h : ∀ a' cap' w', Hid (w'.ownsRow base e 1 (.slice a' (n + str.size) cap') (n + str.size) (xs ++ u8s str.data.toList)) → Hid (w.grownBy w' v.ownBlock) → Hid ((Value.slice a' (n + str.size) cap').ownBlock = v.ownBlock ∨ (Value.slice a' (n + str.size) cap').ownBlock = some w.heap.size) →
      K (a.put op.dst (.slice a' (n + str.size) cap')) w') : op.wp P a w K Q := by
  obtain ⟨a', c', w', hr, h2, h3, h4⟩ := run_append_str (P := P) (w := w) base t u op.type e i ht hu hi hz hsize hby v n xs hown str h63 hbytes hbase
  unfold Oper.wp execOp
  simp only [ho, resolve, invoke, builtin, Sem.run_bind, Sem.run_pure, Result.andThen_ok, List.map_toArray, List.map_cons, List.map_nil, hv, hx, hr]
  exact h a' c' w' (hid h2) (hid h3) (hid h4)

theorem wpL_valZ {P : Program} {ops : Array Oper} {rest : List Oper} {op : Oper} {a : Act} {w : World} {Q : Exit → Act → World → Prop} (hw : Region.wanted op (yielded ops a.tmps) = true) (v : Value) (hy : (execOp a.eval op).run P w = .ok (.value v) w) (h : wpList P ops Q rest (a.put op.dst v) w) : wpList P ops Q (op :: rest) a w := by
  unfold wpList
  rw [if_pos hw]
  left
  unfold Oper.wp
  rw [hy]
  exact h
theorem ret_cell2 {P : Program} {a : Act} {w : World} {fn : Func} {R : Ending → World → Prop} {p q : Tmp} {ty : TypeId} {b : Nat} {t : TypeId} {cs : List Value} (hr : fn.results = #[.cell p ty, .tmp q]) (d : TypeDesc) (hp : a.tmps.getD p undef = .pointer (some ⟨b, 0, none⟩)) (hB : Blk w b t cs)
    (hu : P.underlying ty = some d) (hd : (match d with | .struct _ | .array _ _ => true | _ => false) = true) (hi : (P.info? ty).map (·.size) = some cs.length) (hdf : a.defers = [])
    (h : R (.returned (.tuple #[.agg cs.toArray, a.tmps.getD q undef])) w) : bodyPost P fn R .ret a w := by
  refine bodyPost_ret ?_ hdf h
  have hp' : a.tmps[p]?.getD undef = .pointer (some ⟨b, 0, none⟩) := by simpa using hp
  simp [results, hr, hp', asAddr, run_loadVar_row w b t ty cs.toArray (0, 0) d hB hu hd (by simpa using hi)]
section
variable {P : Program} {ops : Array Oper} {rest : List Oper} {op : Oper} {a : Act} {w : World} {Q : Exit → Act → World → Prop}
theorem run_storeV (w : World) (b o : Nat) (ty : TypeId) (v : Value) (vs : List Value) (hvs : v.cells = vs.toArray) (ht : w.there b o vs.length) (hi : (P.info? ty).map (·.size) = some vs.length) (h1 : ∀ u ∈ vs, u.oneCell' = true) :
    (storeVar ty ⟨b, o, none⟩ v).run P w = .ok () (w.setCells b o vs) := by
  have := run_storeCells_cells (P := P) b o vs 0 w (fun j hj => by simpa using (ht j (by simpa using hj)).1) (fun j hj => by simpa using (ht j (by simpa using hj)).2) h1
  cases hq : P.info? ty with
  | none => simp [hq] at hi
  | some i =>
    have hi' : i.size = vs.length := by simpa [hq] using hi
    simp [storeVar, sizeOf, typeInfo, hq, hi', hvs, this]
theorem wp_storeV {K : Act → World → Prop} (ty : TypeId) (x y : Operand) (ho : op.op = .store ty x y) (b o : Nat) (v : Value) (vs : List Value) (hx : a.eval x = .pointer (some ⟨b, o, none⟩)) (hy : a.eval y = v) (hvs : v.cells = vs.toArray)
    (t : TypeId) (cs : List Value) (hB : Blk w b t cs) (hle : o + vs.length ≤ cs.length) (hi : (P.info? ty).map (·.size) = some vs.length) (h1 : ∀ u ∈ vs, u.oneCell' = true)
    (h : ∀ w', Hid (Blk w' b t (spl cs o vs)) → Hid (Fr (fun k => k = b) w w') → Hid (w'.heap.size = w.heap.size) → K (a.put op.dst undef) w') : op.wp P a w K Q := by
  unfold Oper.wp execOp
  simp only [ho, hx, hy, Instr.storeAt, Instr.sureAddr, Sem.run_bind, Sem.run_pure, Result.andThen_ok, run_storeV w b o ty v vs hvs (hB.there o vs.length hle) hi h1]
  exact h _ (hid (hB.sets vs o hle)) (hid ((Fr.refl (fun k => k = b) w).setCells b o vs (.inl rfl))) (hid (by simp))
theorem wpL_storeV (hgd : op.guard = none) (ty : TypeId) (x y : Operand) (ho : op.op = .store ty x y) (b o : Nat) (v : Value) (vs : List Value) (hx : a.eval x = .pointer (some ⟨b, o, none⟩)) (hy : a.eval y = v) (hvs : v.cells = vs.toArray)
    (t : TypeId) (cs : List Value) (hB : Blk w b t cs) (hle : o + vs.length ≤ cs.length) (hi : (P.info? ty).map (·.size) = some vs.length) (h1 : ∀ u ∈ vs, u.oneCell' = true)
    (h : ∀ w', Hid (Blk w' b t (spl cs o vs)) → Hid (Fr (fun k => k = b) w w') → Hid (w'.heap.size = w.heap.size) → wpList P ops Q rest (a.put op.dst undef) w') : wpList P ops Q (op :: rest) a w :=
  wpList_plain hgd fun _ hK => wp_storeV ty x y ho b o v vs hx hy hvs t cs hB hle hi h1 fun w' a b c => hK _ _ (h w' a b c)
/-- One cell is stored. -/
theorem wpL_setV (hgd : op.guard = none) (ty : TypeId) (x y : Operand) (ho : op.op = .store ty x y) (b o : Nat) (v : Value) (hx : a.eval x = .pointer (some ⟨b, o, none⟩)) (hy : a.eval y = v) (hv : v.cells = #[v]) (h1 : v.oneCell' = true)
    (t : TypeId) (cs : List Value) (hB : Blk w b t cs) (hle : o < cs.length) (hi : (P.info? ty).map (·.size) = some 1)
    (h : ∀ w', Hid (Blk w' b t (cs.set o v)) → Hid (Fr (fun k => k = b) w w') → Hid (w'.heap.size = w.heap.size) → wpList P ops Q rest (a.put op.dst undef) w') : wpList P ops Q (op :: rest) a w :=
  wpL_storeV hgd ty x y ho b o v [v] hx hy (by rw [hv]) t cs hB (by simp; omega) hi (by simpa using h1) fun w' h2 h3 h4 => h w' (by
    rw [← spl_nil (cs.set o v) (o + 1), spl_cons _ _ _ _ hle]; exact h2) h3 h4
/-- A call that may fail. -/
theorem wp_callP {K : Act → World → Prop} (x : Operand) (args : List Operand) (tys : Array TypeId) (ho : op.op = .call { callee := .value x, args := args.toArray, argTypes := tys }) (f : FuncId) (cap : List Value) (hx : a.eval x = .func (.func f) #[] cap.toArray)
    (hent : ∀ (vs : Array Value) (w : World), (callFunc f vs).run P w = .ok (.enter f vs) w) (vs : List Value) (hvs : args.map a.eval ++ cap = vs)
    (hc : Calls P f vs.toArray w fun e w' => (∃ v, e = .returned v ∧ K (a.put op.dst v) w') ∨ ∃ c, e = .panicked c ∧ Q (.panic c) a w') : op.wp P a w K Q := by
  unfold Oper.wp
  have e : (execOp a.eval op).run P w = .ok (.enter f vs.toArray) w := by
    have h1 := hent vs.toArray w
    rw [← hvs] at h1
    simp [execOp, ho, resolve, hx, Deferred.ofValue, invoke]
    rw [← hvs]
    simpa using h1
  rw [e]
  show Calls P f vs.toArray w _
  refine hc.mono ?_
  rintro e w' (⟨v, rfl, h⟩ | ⟨c, rfl, h⟩)
  · exact h
  · exact h
theorem wpL_callP (hgd : op.guard = none) (x : Operand) (args : List Operand) (tys : Array TypeId) (ho : op.op = .call { callee := .value x, args := args.toArray, argTypes := tys }) (f : FuncId) (cap : List Value) (hx : a.eval x = .func (.func f) #[] cap.toArray)
    (hent : ∀ (vs : Array Value) (w : World), (callFunc f vs).run P w = .ok (.enter f vs) w) (vs : List Value) (hvs : args.map a.eval ++ cap = vs)
    (hc : Calls P f vs.toArray w fun e w' => (∃ v, e = .returned v ∧ wpList P ops Q rest (a.put op.dst v) w') ∨ ∃ c, e = .panicked c ∧ Q (.panic c) a w') : wpList P ops Q (op :: rest) a w :=
  wpList_plain hgd fun _ hK => wp_callP x args tys ho f cap hx hent vs hvs (hc.mono fun e w' h => h.imp (fun ⟨v, h1, h2⟩ => ⟨v, h1, hK _ _ h2⟩) id)
/-- 'append(v, x...)' as one operation of a region. -/
theorem wp_append {K : Act → World → Prop} (s x : Operand) (t : TypeId) (ho : op.op = .call { callee := .builtin .append, args := #[s, x], argTypes := #[t, t] })
    (base : Nat) (e : TypeId) (i : TypeInfo) (z : Value) (size bytes : Nat) (ht : P.underlying t = some (.slice e)) (hi : P.info? e = some i) (hz : i.zero = some z)
    (hsize : i.size = size) (hby : i.bytes = bytes) (hzs : z.cells.size = size) (hsz : 0 < size) (v : Value) (n : Nat) (xs : List Value) (hv : a.eval s = v) (hown : w.ownsRow base e size v n xs)
    (sp : Option Addr) (m c : Nat) (news : List Value) (hx : a.eval x = .slice sp m c) (hl : news.length = m * size) (hsrc : m = 0 ∨ ∃ ad, sp = some ad ∧ ∀ j u, news[j]? = some u → w.cell? (ad.add j) = some u) (h1 : ∀ u ∈ news, u.oneCell' = true)
    (h63 : n + m ≤ maxLen) (hbytes : (n + m) * bytes ≤ 140737488355328) (hbase : base ≤ w.heap.size)
    (h : ∀ a' cap' w', Hid (w'.ownsRow base e size (.slice a' (n + m) cap') (n + m) (xs ++ news)) → Hid (w.grownBy w' v.ownBlock) → Hid ((Value.slice a' (n + m) cap').ownBlock = v.ownBlock ∨ (Value.slice a' (n + m) cap').ownBlock = some w.heap.size) →
      K (a.put op.dst (.slice a' (n + m) cap')) w') : op.wp P a w K Q := by
  obtain ⟨v', w', hr, h2, h3, h4, a', cap', rfl⟩ := run_append_any (P := P) (w := w) t op.type base e i z size bytes ht hi hz hsize hby hzs hsz v n xs hown sp m c news hl hsrc h1 h63 hbytes hbase
  unfold Oper.wp execOp
  simp only [ho, resolve, invoke, builtin, Sem.run_bind, Sem.run_pure, Result.andThen_ok, List.map_toArray, List.map_cons, List.map_nil, hv, hx, hr]
  exact h a' cap' w' h2 h3 h4
/-- The last of a row's elements is stored anew. -/
theorem own_last {base : Nat} {e : TypeId} {v : Value} {n : Nat} {xs zs kid : List Value} (h : w.ownsRow base e 3 v (n + 1) (xs ++ zs)) (hx : xs.length = n * 3) (hk : kid.length = 3) :
    ∃ g cap cs, v = .slice (some ⟨g, 0, none⟩) (n + 1) cap ∧ n + 1 ≤ cap ∧ Blk w g e cs ∧ n * 3 + 3 ≤ cs.length ∧ ∀ w', Blk w' g e (spl cs (n * 3) kid) → w'.ownsRow base e 3 v (n + 1) (xs ++ kid) := by
  rcases h.2 with ⟨rfl, h0⟩ | ⟨g, cap, cur, rfl, hb, hg, h1, h2, h3, h4⟩
  · have h00 : n + 1 = 0 := h0
    omega
  · have hcs : cur.toList.length = cap * 3 := by simpa using h3
    have hle : n * 3 + 3 ≤ cur.toList.length := by rw [hcs]; omega
    refine ⟨g, cap, cur.toList, rfl, h1, by simpa [Blk] using hg, hle, fun w' hB => ?_⟩
    have htk : cur.toList.take (n * 3) = xs := by
      have h5 := congrArg (List.take (n * 3)) h4
      rw [List.take_take, Nat.min_eq_left (by omega), List.take_append_of_le_length (by omega), ← hx, List.take_length] at h5
      rw [← hx]; exact h5
    refine ⟨by rw [List.length_append, hx, hk]; omega, .inr ⟨g, cap, (spl cur.toList (n * 3) kid).toArray, rfl, hb, hB, h1, h2, ?_, ?_⟩⟩
    · rw [List.size_toArray, spl_length _ _ _ (by rw [hk]; exact hle)]; exact hcs
    · unfold spl
      rw [htk]
      have e1 : (n + 1) * 3 = (xs ++ kid).length := by rw [List.length_append, hx, hk]; omega
      simp only [List.append_assoc]
      rw [e1, ← List.append_assoc, List.take_left]
/-- A string's bytes behind a row. -/
theorem wpL_appendStr (hgd : op.guard = none) (s x : Operand) (t u : TypeId) (ho : op.op = .call { callee := .builtin .append, args := #[s, x], argTypes := #[t, u] })
    (base : Nat) (e : TypeId) (i : TypeInfo) (ht : P.underlying t = some (.slice e)) (hu : P.underlying u = some .string) (hi : P.info? e = some i) (hz : i.zero = some (.int .u8 0)) (hsize : i.size = 1) (hby : i.bytes = 1)
    (v : Value) (n : Nat) (xs : List Value) (hv : a.eval s = v) (hown : w.ownsRow base e 1 v n xs) (str : ByteArray) (hx : a.eval x = .string str) (h63 : n + str.size ≤ maxLen) (hbytes : n + str.size ≤ 140737488355328) (hbase : base ≤ w.heap.size)
    (h : ∀ a' cap' w', Hid (w'.ownsRow base e 1 (.slice a' (n + str.size) cap') (n + str.size) (xs ++ u8s str.data.toList)) → Hid (w.grownBy w' v.ownBlock) → Hid ((Value.slice a' (n + str.size) cap').ownBlock = v.ownBlock ∨ (Value.slice a' (n + str.size) cap').ownBlock = some w.heap.size) →
      wpList P ops Q rest (a.put op.dst (.slice a' (n + str.size) cap')) w') : wpList P ops Q (op :: rest) a w :=
  wpList_plain hgd fun _ hK => wp_appendStr s x t u ho base e i ht hu hi hz hsize hby v n xs hv hown str hx h63 hbytes hbase fun a' c' w' h1 h2 h3 => hK _ _ (h a' c' w' h1 h2 h3)
end
end Go.Proofs.Ythjmkfpdbbfcpaa.BE

namespace Go.Proofs.Ythjmkfpdbbfcpaa.BE
set_option maxRecDepth 100000
open Go.RowKit K

/-- What the package panics with. -/
abbrev fl (e : Nat) : PanicEntry := { v := .iface 80 (.agg #[.int .i64 e]), recovered := false }
/-- It does what D says, or fails with an error. -/
def Musts (b : Bool) (e : Nat) (w : World) (en : Ending) (w' : World) : Prop := w' = w ∧ ((b = true ∧ en = .returned (.tuple #[])) ∨ (b = false ∧ en = .panicked [fl e]))
theorem must_any (b : Bool) (e : Nat) (w : World) : Calls Try.prog 49 #[.bool b, .int .i64 e] w (Musts b e w) := by
  cases b with
  | true =>
    go_enter Try.func49, Try.ntmps49
    go_wp2
    go_end0
    exact ⟨rfl, .inl ⟨rfl, rfl⟩⟩
  | false =>
    go_enter Try.func49, Try.ntmps49
    go_wp2
    exact ⟨rfl, rfl, .inr ⟨rfl, rfl⟩⟩
theorem zeroF : ∀ w, (zeroValue 80).run Try.prog w = .ok (.agg #[.int .i64 0]) w := fun _ => by kernel_rfl
theorem infoF : (Try.prog.info? 80).map (·.size) = some 1 := by kernel_rfl
theorem infoE : (Try.prog.info? 31).map (·.size) = some 1 := by kernel_rfl
theorem ta_fail (v : Value) (w : World) : (Instr.typeAssert (.iface 80 v) 20 80 true).run Try.prog w = .ok (.tuple #[v, .bool true]) w := by
  unfold Instr.typeAssert
  simp [run_underlying Try.underlying80]
set_option maxHeartbeats 400000 in
theorem catch_panicking (p : Nat) (e : Nat) (w : World) (hB : Blk w p 31 [.int .i64 0]) :
    CallsD Try.prog 48 #[.pointer (some ⟨p, 0, none⟩)] (.panicking [fl e]) w fun en u' w' =>
      en = .returned (.tuple #[]) ∧ u' = .panicking [{ fl e with recovered := true }] ∧ Blk w' p 31 [.int .i64 e] ∧ Fr (fun k => k = p) w w' := by
  have hlt := hB.lt
  have HB := hid hB; have HLT := hid hlt
  clear hB hlt
  refine callsD_of_wpS Try.func48 rfl fun c₀ cs hu => ?_
  apply wpS_seq
  apply wpS_region
  simp [wpOpsS, go_sem, recoverD, hu, Try.ntmps48, Exit.thenS]
  refine wpS_of_wp ?_
  change Code.wp _ _ _ { tmps := #[.pointer (some ⟨p, 0, none⟩), undef, undef, undef, .iface 80 (.agg #[.int .i64 e]), undef, undef, undef, undef, undef, undef, undef], defers := [] } w
  have hta := ta_fail (.agg #[.int .i64 e])
  go_wp2_with (first
    | ((with_reducible refine K.atO (.alloc 80) ?_); refine wpL_alloc rfl _ rfl _ zeroF [.int .i64 0] rfl ?_; intro w1 HB1 F1 HS1)
    | ((with_reducible refine K.atO (.store 80 _ _) ?_); refine wpL_storeV rfl _ _ _ rfl w.heap.size 0 (.agg #[.int .i64 e]) [.int .i64 e] rfl rfl rfl _ _ HB1.out (by simp) infoF (by intro u hu; simp at hu; rcases hu with rfl; rfl) ?_; intro w2 HB2 F2 HS2; have c0 : w2.cell? ⟨w.heap.size, 0, none⟩ = some (.int .i64 e) := HB2.out.cell 0; have HP2 : Hid (Blk w2 p 31 [.int .i64 0]) := hid ((HB.out.fr F1.out id).fr F2.out (fun h => by have := HLT.out; omega)))
    | ((with_reducible refine K.atO (.store 31 _ _) ?_); refine wpL_setV rfl _ _ _ rfl p 0 (.int .i64 e) rfl rfl rfl rfl _ _ HP2.out (by simp) infoE ?_; intro w3 HB3 F3 HS3))
  have f3 : Fr (fun k => k = p) w w3 := ((F1.out.no (D := fun k => k = p)).trans F2.out (fun i e => .inr (by have e : i = w.heap.size := e; omega))).trans' F3.out
  exact ⟨rfl, _, rfl, _, by simp [results, Try.results48], rfl, rfl, HB3.out, f3⟩
theorem catch_idle (p : Addr) (w : World) :
    CallsD Try.prog 48 #[.pointer (some p)] .returning w fun e u' w' => e = .returned (.tuple #[]) ∧ u' = .returning ∧ w' = w := by
  refine callsD_of_wpS Try.func48 rfl fun c₀ cs hu => ?_
  apply wpS_seq
  apply wpS_region
  simp [wpOpsS, go_sem, recoverD, hu, Try.ntmps48, Exit.thenS]
  refine wpS_of_wp ?_
  go_wp2_with fail
  cases c₀
  simp_all [bodyPostS, results, Try.results48]
theorem zeroE : ∀ w, (zeroValue 31).run Try.prog w = .ok (.int .i64 0) w := fun _ => by kernel_rfl
/-- What caught leaves: the error, or none; what was done began in w1 and ended in w2. -/
def Caught (P : Option Nat → World → World → Prop) (w : World) (e : Ending) (w' : World) : Prop :=
  ∃ o w1 w2, e = .returned (.int .i64 ((o.getD 0 : Nat) : Int)) ∧ Fr No w w1 ∧ w1.heap.size = w.heap.size + 1 ∧ P o w1 w2 ∧ Fr (fun k => k = w.heap.size) w2 w'
set_option maxHeartbeats 1000000 in
theorem caught_any (f : FuncId) (cap : List Value) (P : Option Nat → World → World → Prop) (D : Nat → Prop) (w : World) (hD : ¬ D w.heap.size) (hent : ∀ (vs : Array Value) (w : World), (callFunc f vs).run Try.prog w = .ok (.enter f vs) w)
    (hP : ∀ o w1 w2, P o w1 w2 → Fr D w1 w2)
    (hf : ∀ w1, Fr No w w1 → w1.heap.size = w.heap.size + 1 → Calls Try.prog f cap.toArray w1 fun e w2 => (e = .returned (.tuple #[]) ∧ P none w1 w2) ∨ ∃ c, e = .panicked [fl c] ∧ P (some c) w1 w2) :
    Calls Try.prog 26 #[.func (.func f) #[] cap.toArray] w (Caught P w) := by
  have hmf : ∀ (fn : Fn) (first cap : Array Value) (w : World), (Instr.makeFunc fn first cap).run Try.prog w = .ok (.func fn first cap) w := fun _ _ _ _ => rfl
  have HD := hid hD; have HE := hid hent; have HP := hid hP; have HF := hid hf
  clear hD hent hP hf
  go_enter_defers Try.func26, Try.ntmps26
  go_wp2_with (first
    | ((with_reducible refine K.atO (.alloc 31) ?_); refine wpL_alloc rfl _ rfl _ zeroE [.int .i64 0] rfl ?_; intro w1 HB1 F1 HS1)
    | ((with_reducible refine K.atO (.call { callee := .value _, args := _, argTypes := _ }) ?_); refine wpL_callP rfl _ [] _ rfl f cap rfl HE.out cap rfl ?_))
  refine (HF.out w1 F1.out HS1.out).mono ?_
  rintro e w2 (⟨rfl, hp⟩ | ⟨c, rfl, hp⟩)
  · have HP2 := hid hp
    have HB2 := hid (HB1.out.fr (HP.out _ _ _ hp) HD.out)
    refine .inl ⟨_, rfl, ?_⟩
    clear hp
    go_wp2_with (first
      | ((with_reducible refine K.atO (.store 31 _ _) ?_); refine wpL_setV rfl _ _ _ rfl w.heap.size 0 (.int .i64 0) rfl rfl rfl rfl _ _ HB2.out (by simp) infoE ?_; intro w3 HB3 F3 HS3))
    have c3 : w3.cell? ⟨w.heap.size, 0, none⟩ = some (.int .i64 0) := HB3.out.cell 0
    refine leaves_cons (f := 48) (args := #[.pointer (some ⟨w.heap.size, 0, none⟩)]) (by simp) (by simp [go_sem]) ?_
    refine (catch_idle _ _).mono ?_
    rintro e u' w'' ⟨rfl, rfl, rfl⟩
    refine ⟨.int .i64 0, ?_, none, w1, w2, rfl, F1.out, HS1.out, HP2.out, F3.out⟩
    simp [results, Try.results26, go_sem, c3]
  · have HP2 := hid hp
    have hB2 := HB1.out.fr (HP.out _ _ _ hp) HD.out
    refine .inr ⟨_, rfl, ?_⟩
    refine leaves_cons (f := 48) (args := #[.pointer (some ⟨w.heap.size, 0, none⟩)]) (by simp) (by simp [go_sem]) ?_
    refine (catch_panicking w.heap.size c w2 hB2).mono ?_
    rintro e u' w3 ⟨rfl, rfl, hB3, hf3⟩
    have c3 : w3.cell? ⟨w.heap.size, 0, none⟩ = some (.int .i64 c) := hB3.cell 0
    refine ⟨.int .i64 c, ?_, some c, w1, w2, rfl, F1.out, HS1.out, HP2.out, hf3⟩
    simp [results, Try.results26, go_sem, c3]
end Go.Proofs.Ythjmkfpdbbfcpaa.BE

namespace Go.Proofs.Ythjmkfpdbbfcpaa.BE
set_option maxRecDepth 100000
open Go.RowKit K

theorem infoN : (Try.prog.info? 44).map (·.size) = some 3 := by kernel_rfl
theorem infozN : (Try.prog.info? 44).map (fun i => (i.zero, i.size, i.bytes)) = some (some (.agg #[.int .i64 0, .string ⟨#[]⟩, .slice none 0 0]), 3, 48) := by kernel_rfl
theorem zeroN : ∀ w, (zeroValue 44).run Try.prog w = .ok (.agg #[.int .i64 0, .string ⟨#[]⟩, .slice none 0 0]) w := fun _ => by kernel_rfl
/-- An element's three cells, its children at blocks that S lets be; M bounds how deep it is. -/
def NdAt : Nat → (Nat → Prop) → World → Nd → List Value → Prop
  | 0, _, _, _, _ => False
  | M + 1, S, w, n, cs => ∃ a cap, cs = [.int .i64 n.tag, .string (sb n.body), .slice a n.kids.length cap] ∧ (-9223372036854775808 ≤ n.tag ∧ n.tag ≤ 9223372036854775807) ∧ n.body.length ≤ 140737488351232 ∧ n.kids.length ≤ min cap 140737488351232 ∧
    (n.kids = [] ∨ ∃ g o, ∃ L : List (List Value), a = some ⟨g, o, none⟩ ∧ S g ∧ g < w.heap.size ∧ w.rangeAt g o L.flatten ∧ L.length = n.kids.length ∧ ∀ (j : Nat) (x : Nd) (c : List Value), n.kids[j]? = some x → L[j]? = some c → NdAt M S w x c)
theorem NdAt.len {M : Nat} {S : Nat → Prop} {w : World} {n : Nd} {cs : List Value} (h : NdAt M S w n cs) : cs.length = 3 := by
  cases M with
  | zero => exact h.elim
  | succ M => obtain ⟨a, cap, rfl, _⟩ := h; rfl
theorem NdAt.one {M : Nat} {S : Nat → Prop} {w : World} {n : Nd} {cs : List Value} (h : NdAt M S w n cs) : ∀ u ∈ cs, u.oneCell' = true := by
  cases M with
  | zero => exact h.elim
  | succ M =>
    obtain ⟨a, cap, rfl, _⟩ := h
    intro u hu
    simp at hu
    rcases hu with rfl | rfl | rfl <;> rfl
theorem NdAt.fr {D S : Nat → Prop} {w w' : World} (hf : Fr D w w') (hd : ∀ k, S k → k < w.heap.size → ¬ D k) : ∀ {M : Nat} {n : Nd} {cs : List Value}, NdAt M S w n cs → NdAt M S w' n cs
  | 0, _, _, h => h.elim
  | M + 1, n, cs, ⟨a, cap, h1, h2, h3, h4, h5⟩ => ⟨a, cap, h1, h2, h3, h4, h5.imp id fun ⟨g, o, L, e1, e2, e3, e4, e5, e6⟩ =>
      ⟨g, o, L, e1, e2, Nat.lt_of_lt_of_le e3 hf.size, hf.range e4 (hd g e2 e3), e5, fun j x c hx hc => NdAt.fr hf hd (e6 j x c hx hc)⟩⟩
theorem NdAt.no {S : Nat → Prop} {w w' : World} {M : Nat} {n : Nd} {cs : List Value} (h : NdAt M S w n cs) (hf : Fr No w w') : NdAt M S w' n cs := NdAt.fr hf (fun _ _ _ e => e) h
theorem NdAt.mono {S S' : Nat → Prop} {w : World} (hs : ∀ k, k < w.heap.size → S k → S' k) : ∀ {M : Nat} {n : Nd} {cs : List Value}, NdAt M S w n cs → NdAt M S' w n cs
  | 0, _, _, h => h.elim
  | M + 1, n, cs, ⟨a, cap, h1, h2, h3, h4, h5⟩ => ⟨a, cap, h1, h2, h3, h4, h5.imp id fun ⟨g, o, L, e1, e2, e3, e4, e5, e6⟩ =>
      ⟨g, o, L, e1, hs g e3 e2, e3, e4, e5, fun j x c hx hc => NdAt.mono hs (e6 j x c hx hc)⟩⟩
theorem NdAt.more {S : Nat → Prop} {w : World} : ∀ {M : Nat} {n : Nd} {cs : List Value}, NdAt M S w n cs → NdAt (M + 1) S w n cs
  | 0, _, _, h => h.elim
  | M + 1, n, cs, ⟨a, cap, h1, h2, h3, h4, h5⟩ => ⟨a, cap, h1, h2, h3, h4, h5.imp id fun ⟨g, o, L, e1, e2, e3, e4, e5, e6⟩ =>
      ⟨g, o, L, e1, e2, e3, e4, e5, fun j x c hx hc => NdAt.more (e6 j x c hx hc)⟩⟩
theorem NdAt.deep {S : Nat → Prop} {w : World} : ∀ {M : Nat} {n : Nd} {cs : List Value}, NdAt M S w n cs → BE.deep M n = true
  | 0, _, _, h => h.elim
  | M + 1, n, cs, ⟨a, cap, h1, h2, h3, h4, h5⟩ => by
    simp only [BE.deep, List.all_eq_true]
    intro x hx
    rcases h5 with h5 | ⟨g, o, L, e1, e2, e3, e4, e5, e6⟩
    · rw [h5] at hx; cases hx
    · obtain ⟨j, hj, rfl⟩ := List.mem_iff_getElem.1 hx
      exact NdAt.deep (e6 j _ _ (List.getElem?_eq_getElem hj) (List.getElem?_eq_getElem (by omega)))
theorem rangeAt_part {w : World} {g o : Nat} {L : List (List Value)} (h : w.rangeAt g o L.flatten) (h3 : ∀ c ∈ L, c.length = 3) {j : Nat} {c : List Value} (hj : L[j]? = some c) : w.rangeAt g (o + j * 3) c := by
  intro i v hi
  have e := flat_get L j c h3 hj
  have hc : c.length = 3 := h3 c (List.mem_of_getElem? hj)
  have hil : i < 3 := by have := (List.getElem?_eq_some_iff.1 hi).1; omega
  rw [← e, List.getElem?_take, if_pos hil, List.getElem?_drop] at hi
  have := h _ v hi
  rwa [← Nat.add_assoc] at this
/-- The parts of an element with a child. -/
theorem NdAt.kid {M : Nat} {S : Nat → Prop} {w : World} {n : Nd} {cs : List Value} (h : NdAt (M + 1) S w n cs) {j : Nat} {x : Nd} (hj : n.kids[j]? = some x) :
    ∃ g o cap c, cs = [.int .i64 n.tag, .string (sb n.body), .slice (some ⟨g, o, none⟩) n.kids.length cap] ∧ w.rangeAt g (o + j * 3) c ∧ c.length = 3 ∧ NdAt M S w x c := by
  obtain ⟨a, cap, h1, h2, h3, h4, h5⟩ := h
  rcases h5 with h5 | ⟨g, o, L, rfl, e2, e3, e4, e5, e6⟩
  · rw [h5] at hj; cases hj
  · have hl : j < n.kids.length := (List.getElem?_eq_some_iff.1 hj).1
    have hL : L[j]? = some (L[j]'(by omega)) := List.getElem?_eq_getElem _
    have hall : ∀ c ∈ L, c.length = 3 := by
      intro c hc
      obtain ⟨i, hi, rfl⟩ := List.mem_iff_getElem.1 hc
      exact (e6 i _ _ (List.getElem?_eq_getElem (by omega)) (List.getElem?_eq_getElem hi)).len
    exact ⟨g, o, cap, _, h1, rangeAt_part e4 hall hL, hall _ (List.getElem_mem _), e6 j _ _ hj hL⟩
theorem spl_all {cs vs : List Value} (h : vs.length = cs.length) : spl cs 0 vs = vs := by
  unfold spl
  rw [List.take_zero, List.nil_append, Nat.zero_add, h, List.drop_length, List.append_nil]
theorem NdAt.head {M : Nat} {S : Nat → Prop} {w : World} {n : Nd} {cs : List Value} (h : NdAt M S w n cs) :
    ∃ a cap, cs = [.int .i64 n.tag, .string (sb n.body), .slice a n.kids.length cap] ∧ (-9223372036854775808 ≤ n.tag ∧ n.tag ≤ 9223372036854775807) ∧ n.body.length ≤ 140737488351232 ∧ n.kids.length ≤ 140737488351232 := by
  cases M with
  | zero => exact h.elim
  | succ M => obtain ⟨a, cap, h1, h2, h3, h4, _⟩ := h; exact ⟨a, cap, h1, h2, h3, Nat.le_trans h4 (Nat.min_le_right _ _)⟩
/-- Below N. -/
def Lo (N : Nat) : Nat → Prop := fun k => k < N
/-- What a visitor may turn: what is not below N, and not block B. -/
def May (N B : Nat) : Nat → Prop := fun k => N ≤ k ∧ k ≠ B

/-- What children leaves. -/
def Visited (I : Nat → World → Prop) (Bad : Nat → World → Prop) (k : Nat) (e : Ending) (w' : World) : Prop :=
  (e = .returned (.tuple #[]) ∧ I k w') ∨ ∃ c, e = .panicked [fl c] ∧ Bad c w'
set_option maxHeartbeats 4000000 in
theorem children_any (M N : Nat) (n : Nd) (cs : List Value) (f : FuncId) (cap : List Value) (I : Nat → World → Prop) (Bad : Nat → World → Prop) (w : World) (hn : NdAt (M + 1) (Lo N) w n cs) (hN : N ≤ w.heap.size)
    (hent : ∀ (vs : Array Value) (w : World), (callFunc f vs).run Try.prog w = .ok (.enter f vs) w)
    (h0 : I 0 w) (hst : ∀ i w1 w2, I i w1 → Fr No w1 w2 → I i w2)
    (hf : ∀ i x c wv, n.kids[i]? = some x → NdAt M (Lo N) wv x c → I i wv → w.heap.size < wv.heap.size → Calls Try.prog f (Value.agg c.toArray :: cap).toArray wv fun e w' => Fr (May N w.heap.size) wv w' ∧ Visited I Bad (i + 1) e w') :
    Calls Try.prog 43 #[.agg cs.toArray, .func (.func f) #[] cap.toArray] w (Visited I Bad n.kids.length) := by
  obtain ⟨a, sc, hcs, htg, hbl, hkl⟩ := hn.head
  have HN := hid hn; have HNN := hid hN; have HE := hid hent; have HI0 := hid h0; have HST := hid hst; have HF := hid hf; have HTG := hid htg; have HBL := hid hbl
  obtain ⟨kl, hkle⟩ : ∃ kl, n.kids.length = kl := ⟨_, rfl⟩
  have HKL := hid hkle
  rw [hkle] at hcs hkl ⊢
  subst hcs
  clear hn hN hent h0 hst hf htg hbl hkle
  go_enter Try.func43, Try.ntmps43
  go_wp2_with (first
    | ((with_reducible refine K.atO (.box 44 _) ?_); refine wpL_box rfl _ _ rfl _ rfl [.int .i64 n.tag, .string (sb n.body), .slice a kl sc] rfl ?_; intro w1 HB1 F1 HS1; have c2 : w1.cell? ⟨w.heap.size, 2, none⟩ = some (.slice a kl sc) := HB1.out.cell 2))
  have HR1 : Hid (NdAt (M + 1) (Lo N) w1 n [.int .i64 n.tag, .string (sb n.body), .slice a kl sc]) := hid (HN.out.no F1.out)
  have HI1 : Hid (I 0 w1) := hid (HST.out 0 w w1 HI0.out F1.out)
  have HS : Hid (w.heap.size < w1.heap.size) := hid (by have := HS1.out; omega)
  have HW := hid HS1.out
  clear HB1 F1 HS1 c2 HN HI0 HTG HBL
  go_loopw [9] (fun iv wr => ∃ k : Nat, iv = .int .i64 k ∧ k ≤ kl ∧ Hid (NdAt (M + 1) (Lo N) wr n [.int .i64 n.tag, .string (sb n.body), .slice a kl sc]) ∧ Hid (I k wr) ∧ Hid (w.heap.size < wr.heap.size)) (fun iv _ => kl - (intOf iv).toNat)
  case atStart => exact ⟨0, rfl, Nat.zero_le _, HR1, HI1, HS⟩
  case round =>
    clear HR1 HI1 HS
    obtain ⟨k, rfl, hk, HR, HI, HS⟩ := hrel
    by_cases hlt : k < kl
    · have hlti : (k : Int) < kl := by omega
      have hkli : (kl : Int) ≤ 140737488351232 := by omega
      have hg0 : n.kids[k]? = some (n.kids[k]'(by rw [HKL.out]; exact hlt)) := List.getElem?_eq_getElem _
      obtain ⟨x, hx⟩ : ∃ x, n.kids[k]? = some x := ⟨_, hg0⟩
      clear hg0
      obtain ⟨g, o, cp, c, he, hr, hcl, hxa⟩ := HR.out.kid hx
      simp only [List.cons.injEq, Value.slice.injEq, and_true, true_and] at he
      obtain ⟨ha, -⟩ := he
      subst ha
      have HX := hid hx; have HRR := hid hr; have HCL := hid hcl; have HXA := hid hxa; have HONE := hid hxa.one
      clear hx hr hcl hxa
      go_wp2_with (first
        | ((with_reducible refine K.atO (.load 44 _) ?_); refine wpL_load rfl _ _ rfl g (o + k * 3) rfl c _ HRR.out rfl rfl (by rw [HCL.out]; exact infoN) ?_)
        | ((with_reducible refine K.atO (.alloc 44) ?_); refine wpL_alloc rfl _ rfl _ zeroN [.int .i64 0, .string ⟨#[]⟩, .slice none 0 0] rfl ?_; intro w2 HB2 F2 HS2)
        | ((with_reducible refine K.atO (.store 44 _ _) ?_); refine wpL_storeV rfl _ _ _ rfl wr.heap.size 0 (.agg c.toArray) c rfl rfl rfl _ _ HB2.out (by rw [HCL.out]; simp) (by rw [HCL.out]; exact infoN) HONE.out ?_; intro w3 HB3 F3 HS3; have HB3c : Hid (Blk w3 wr.heap.size 44 c) := hid (by have h := HB3.out; rwa [spl_all (by simp [HCL.out])] at h))
        | ((with_reducible refine K.atO (.load 44 _) ?_); refine wpL_load rfl _ _ rfl wr.heap.size 0 rfl c _ (HB3c.out.range 0 c (by rw [List.drop_zero, List.take_length])) rfl rfl (by rw [HCL.out]; exact infoN) ?_)
        | ((with_reducible refine K.atO (.call { callee := .value _, args := _, argTypes := _ }) ?_); refine wpL_callP rfl _ [_] _ rfl f cap rfl HE.out (Value.agg c.toArray :: cap) rfl ?_)
        | fail)
      have f3 : Fr No wr w3 := F2.out.trans F3.out (fun i e => .inr (by have e : i = wr.heap.size := e; omega))
      have hs3 : w.heap.size < w3.heap.size := by have := HS.out; have := f3.size; omega
      refine (HF.out k x c w3 HX.out (HXA.out.no f3) (HST.out k wr w3 HI.out f3) hs3).mono ?_
      rintro e w4 ⟨f4, hv⟩
      rcases hv with ⟨rfl, hi⟩ | ⟨d, rfl, hb⟩
      · refine .inl ⟨_, rfl, ?_⟩
        have HI4 := hid hi
        have HR4 : Hid (NdAt (M + 1) (Lo N) w4 n [.int .i64 n.tag, .string (sb n.body), .slice (some ⟨g, o, none⟩) kl sc]) := hid (NdAt.fr f4 (fun j hj _ hm => by have : j < N := hj; have := hm.1; omega) (HR.out.no f3))
        have HS4 : Hid (w.heap.size < w4.heap.size) := hid (by have := f4.size; omega)
        clear hi f4 f3 hs3 HB2 HB3 HB3c F2 F3 HS2 HS3 HR HI HS HX HRR HXA
        go_wp2_with fail
        go_roundw
        case rel => exact ⟨k + 1, by go_num, by omega, HR4, HI4, HS4⟩
        case measure => simp [intOf]; omega
      · exact .inr ⟨_, rfl, rfl, .inr ⟨d, rfl, hb⟩⟩
    · obtain rfl : k = kl := by omega
      go_wp2_with fail
      go_end0
      exact .inl ⟨rfl, HI.out⟩
end Go.Proofs.Ythjmkfpdbbfcpaa.BE

namespace Go.Proofs.Ythjmkfpdbbfcpaa.BE
set_option maxRecDepth 100000
open Go.ChangeShapes Go.WideShapes Go.ChangeAt Go.RowKit K

theorem own : ownKnob Try.prog.godebug = none := by kernel_rfl
theorem laidOut : laidOutB Try.prog = true := by kernel_rfl
theorem i64_of {n : Int} (h : (Lit.int .i64 n).wf = true) : -9223372036854775808 ≤ n ∧ n ≤ 9223372036854775807 := by
  simpa [Lit.wf, IntKind.min, IntKind.signed, IntKind.bits] using h
section
variable {H : Type} {enc : TypeId × Value → H} {W W' : World} {v : Value} {d : DataW H} {p : List MemPlace} {ts : List TypeId} {ds : List (DataW H)}
/-- What was there reads behind the call as before. -/
theorem again {t : TypeId} (hr : Try.prog.readableRec t = true) (hrow : t < Try.prog.types.size) (h : DataW.Trod enc Try.prog W 0 (fun _ => true) true t v d p) (hb : Go.RowKit.Below W.heap.size W W') : DataW.Trod enc Try.prog W' 0 (fun b => decide (b < W.heap.size)) true t v d p :=
  Go.RowKit.Below.trod laidOut hr hrow h hb (by obtain ⟨m, hm⟩ := h; exact DataW.trod_lt m _ _ _ hm)
end
/-- These cells read, within so many levels. -/
def ReadsF (fuel : Nat) (w : World) (t : TypeId) (cs : List Value) : Prop :=
  ∃ (H : Type) (enc : TypeId × Value → H) (x : DataW H × List MemPlace), DataW.trod enc Try.prog w 0 (fun _ => true) true fuel t cs = some x ∧ ∀ n ∈ x.1.weights Try.prog t, n ≤ reachBytes
theorem ReadsF.reads {fuel : Nat} {w : World} {t : TypeId} {cs : List Value} (h : ReadsF fuel w t cs) : Reads Try.prog w t cs := by
  obtain ⟨H, enc, x, h1, h2⟩ := h
  exact ⟨H, enc, fuel, x, h1, h2⟩
theorem ReadsF.struct {fuel : Nat} {w : World} {t : TypeId} {fs : Array Field} {cs : List Value} (hu : Try.prog.underlying t = some (.struct fs)) (h : ReadsF fuel w t cs) :
    ∃ f1, fuel = f1 + 1 ∧ cs.length = Try.prog.cellsOf t ∧ ∀ (i : Nat) (f : Field), fs[i]? = some f → ReadsF f1 w f.type ((cs.drop f.offset).take (Try.prog.cellsOf f.type)) := by
  obtain ⟨H, enc, x, h1, h2⟩ := h
  obtain ⟨xs, n, hn, r2, r3, r4, r5⟩ := DataW.trod_struct hu h1
  refine ⟨n, hn, r3, fun i f hf => ?_⟩
  have hi : i < xs.length := by rw [r4]; exact (Array.getElem?_eq_some_iff.1 hf).1
  have := r5 i f hf
  rw [List.getElem?_eq_getElem hi] at this
  refine ⟨H, enc, _, this, fun m hm => h2 m ?_⟩
  rw [r2]
  simp only [DataW.weights, hu]
  exact DataW.weights_mem_each (j := i) (t := f.type) (d := xs[i].1) (by rw [List.getElem?_map]; simp [hf]) (by simp [hi]) m hm
theorem ReadsF.slice {fuel : Nat} {w : World} {t e : TypeId} {cs : List Value} (hu : Try.prog.underlying t = some (.slice e)) (h : ReadsF fuel w t cs) :
    cs = [.slice none 0 0] ∨ ∃ a len cap f1, fuel = f1 + 1 ∧ cs = [.slice (some a) len cap] ∧ len ≤ cap ∧ len * Try.prog.bytesOf e ≤ reachBytes ∧
      ∀ i, i < len → ∃ cs', cs'.length = Try.prog.cellsOf e ∧ (∀ j v, cs'[j]? = some v → w.cell? (a.add (i * Try.prog.cellsOf e + j)) = some v) ∧ ReadsF f1 w e cs' := by
  obtain ⟨H, enc, x, h1, h2⟩ := h
  rcases DataW.trod_slice hu h1 with ⟨r, _⟩ | ⟨a, len, cap, elems, rest, n, hn, r1, r2, _, hl, hm, hlen, hel, hsp, _⟩
  · exact .inl r
  · right
    obtain ⟨hrl, hsp⟩ := hsp rfl
    have hw : ∀ m ∈ (elems.length + rest.length) * Try.prog.bytesOf e :: (DataW.weightsAll Try.prog e (elems.map (·.1)) ++ DataW.weightsAll Try.prog e (rest.map (·.1))), m ≤ reachBytes := by
      intro m hm'
      refine h2 m ?_
      rw [r2]
      simpa [DataW.weights, hu] using hm'
    refine ⟨a, len, cap, n, hn, r1, hl, ?_, fun i hi => ?_⟩
    · have := hw _ List.mem_cons_self
      refine Nat.le_trans (Nat.mul_le_mul_right _ ?_) this
      omega
    · have h3 := hel i hi
      rw [List.getElem?_eq_getElem (by omega)] at h3
      obtain ⟨cs', hc, ht⟩ := Option.bind_eq_some_iff.1 h3
      obtain ⟨hcl, hcc⟩ := cells_of hc
      refine ⟨cs', hcl, fun j v hj => ?_, H, enc, _, ht, fun m hm' => hw m ?_⟩
      · have := hcc j v hj
        rwa [addr_add] at this
      · exact List.mem_cons_of_mem _ (List.mem_append.2 (.inl (mem_weightsAll (List.mem_map_of_mem (List.getElem_mem (by omega))) hm')))
section
variable {H : Type} {enc : TypeId × Value → H} {W W' : World} {v : Value} {d : DataW H} {p : List MemPlace} {ts : List TypeId} {ds : List (DataW H)}
end
end Go.Proofs.Ythjmkfpdbbfcpaa.BE
