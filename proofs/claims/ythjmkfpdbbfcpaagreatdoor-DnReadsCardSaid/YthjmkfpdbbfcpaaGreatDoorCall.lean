/-
  Regions that draw and hold a call; 'copy' out of a string. Over any program.
-/
import Derived.Test.YthjmkfpdbbfcpaaGreatDoorDraw
import Derived.Test.YthjmkfpdbbfcpaaGreatDoorConv
set_option linter.unusedVariables false
set_option linter.unusedSimpArgs false
namespace Go.Proofs.YthjmkfpdbbfcpaaGreatDoor.K
set_option maxRecDepth 100000
open Go.RowKit
section
variable {P : Program} {ops : Array Oper} {Q : Exit → Act → World → Prop} {md : Region.Mode} {op : Oper} {a : Act} {w : World} {K : Act → World → Prop}

/-- Two operations may come up. -/
theorem wpD_two (i j : Nat) {oi oj : Oper} {R : Facts} (Ri Rj : Facts) {fuel : Nat} {listed : Array Bool} (hi : (ops.toList.drop i).head? = some oi) (hj : (ops.toList.drop j).head? = some oj) (hr : Region.ready md ops listed = [i, j])
    (hRi : R.past md ops i = Ri) (hRj : R.past md ops j = Rj) (gi : Region.wanted oi (yielded ops a.tmps) = true) (gj : Region.wanted oj (yielded ops a.tmps) = true)
    (h1 : ∀ K : Act → World → Prop, (∀ a' w', Ri.hold w' → wpD P md ops Q Ri fuel (listed.setIfInBounds i true) a' w' → K a' w') → oi.wp P a w K Q)
    (h2 : ∀ K : Act → World → Prop, (∀ a' w', Rj.hold w' → wpD P md ops Q Rj fuel (listed.setIfInBounds j true) a' w' → K a' w') → oj.wp P a w K Q) : wpD P md ops Q R (fuel + 1) listed a w := by
  refine ⟨fun h0 => (by rw [hr] at h0; cases h0), fun k hk => ?_⟩
  rw [hr] at hk
  rcases List.mem_cons.1 hk with rfl | hk
  · unfold wpOp
    simp only [at_drop hi, gi, if_true]
    rw [hRi]
    exact .inl (h1 _ fun a' w' h1 h2 => ⟨h1, h2⟩)
  · obtain rfl := List.mem_singleton.1 hk
    unfold wpOp
    simp only [at_drop hj, gj, if_true]
    rw [hRj]
    exact .inl (h2 _ fun a' w' h1 h2 => ⟨h1, h2⟩)
/-- Operation i, which its guard shuts out, is taken first. -/
theorem wpD_skip (i : Nat) {oi : Oper} {R : Facts} {fuel : Nat} {listed : Array Bool} (hi : (ops.toList.drop i).head? = some oi)
    (hs : Region.noSelect ops = true) (hf : Region.free md ops listed i = true) (hr : (Region.ready md ops listed).contains i = true) (hQ : ∀ c a w, Q (.panic c) (a.put oi.dst undef) w → Q (.panic c) a w)
    (hg : Region.wanted oi (yielded ops a.tmps) = false) (hS : R.hold w)
    (h : wpD P md ops Q R fuel (listed.setIfInBounds i true) (a.put oi.dst undef) w) : wpD P md ops Q R (fuel + 1) listed a w :=
  wpD_first (S := fun _ => True) (at_drop hi) (Region.noSelect_spec hs) hQ fuel R listed a w (.inr fun _ => trivial) (Region.free_spec (at_drop hi) hf) (by simpa using hr) (.inr ⟨hg, rfl⟩) hS h
/-- Several ways meet again: M says what is known there. -/
theorem wpD_join (M : Act → Act → World → Prop) (R' : Facts) (n : Nat) (listed' : Array Bool) {R : Facts} {fuel : Nat} {listed : Array Bool}
    (h : (∀ a' w', M a a' w' → R'.hold w' → wpD P md ops Q R' n listed' a' w') → wpD P md ops Q R fuel listed a w) (tail : ∀ a' w', M a a' w' → R'.hold w' → wpD P md ops Q R' n listed' a' w') : wpD P md ops Q R fuel listed a w := h tail
theorem wpD_cast {R : Facts} {n : Nat} {listed listed' : Array Bool} (hl : listed = listed') (h : wpD P md ops Q R n listed' a w) : wpD P md ops Q R n listed a w := hl ▸ h
/-- A call of a function or a closure, by its contract. -/
theorem wp_call (x : Operand) (args : List Operand) (tys : Array TypeId) (ho : op.op = .call { callee := .value x, args := args.toArray, argTypes := tys }) (f : FuncId) (cap : List Value) (hx : a.eval x = .func (.func f) #[] cap.toArray)
    (hent : ∀ (vs : Array Value) (w : World), (callFunc f vs).run P w = .ok (.enter f vs) w) (vs : List Value) (hvs : args.map a.eval ++ cap = vs)
    (hc : Calls P f vs.toArray w fun e w' => ∃ v, e = .returned v ∧ K (a.put op.dst v) w') : op.wp P a w K Q := by
  unfold Oper.wp
  have e : (execOp a.eval op).run P w = .ok (.enter f vs.toArray) w := by
    have h1 := hent vs.toArray w
    rw [← hvs] at h1
    simp [execOp, ho, resolve, hx, Deferred.ofValue, invoke]
    rw [← hvs]
    simpa using h1
  rw [e]
  show Calls P f vs.toArray w _
  refine hc.mono ?_
  rintro e w' ⟨v, rfl, h⟩
  exact h
/-- A new variable, as one operation of a region. -/
theorem wp_alloc (t : TypeId) (ho : op.op = .alloc t) (z : Value) (hz : ∀ w, (zeroValue t).run P w = .ok z w) (zs : List Value) (hzs : z.cells = zs.toArray)
    (h : ∀ w', Hid (Blk w' w.heap.size t zs) → Hid (Fr No w w') → Hid (w'.heap.size = w.heap.size + 1) → K (a.put op.dst (.pointer (some ⟨w.heap.size, 0, none⟩))) w') : op.wp P a w K Q := by
  unfold Oper.wp
  have h1 := h (w.alloc (.cells z.cells t)) (hid (by rw [hzs]; exact Blk.new w t zs)) (hid ((Fr.refl _ _).alloc _)) (hid (by simp))
  simp [execOp, ho, Instr.alloc, hz, newVar, newRow, Result.andThen]
  exact h1
/-- One cell is stored. -/
theorem wp_set (b o : Nat) (v : Value)
    (t : TypeId) (cs : List Value) (hB : Blk w b t cs) (hle : o < cs.length)
    (hrun : ∀ w : World, (w.cell? ⟨b, o, none⟩).isSome = true → w.frozen? ⟨b, o, none⟩ = false → (execOp a.eval op).run P w = .ok .skip (w.setCell ⟨b, o, none⟩ v))
    (h : ∀ w', Hid (Blk w' b t (cs.set o v)) → Hid (Fr (fun k => k = b) w w') → Hid (w'.heap.size = w.heap.size) → K (a.put op.dst undef) w') : op.wp P a w K Q := by
  unfold Oper.wp
  rw [hrun w (by rw [hB.cell]; simp [hle]) (hB.frozen o)]
  exact h _ (hid (hB.set o v)) (hid ((Fr.refl _ _).setCell _ _ (.inl rfl))) (hid (by simp))
theorem run_copy_str (w : World) (dT sT ty elem : TypeId) (b o dLen dCap : Nat) (t : ByteArray) (cs : List UInt8) (hcs : cs = t.data.toList.take dLen)
    (hu : P.underlying dT = some (.slice elem)) (hz : ∀ w, (Go.sizeOf elem).run P w = .ok 1 w)
    (hc : ∀ j, j < cs.length → (w.cell? ⟨b, o + j, none⟩).isSome = true) (hf : ∀ j, j < cs.length → w.frozen? ⟨b, o + j, none⟩ = false) :
    (Builtin.copy_ #[dT, sT] ty #[.slice (some ⟨b, o, none⟩) dLen dCap, .string t]).run P w = .ok (goInt cs.length) (w.setCells b o (u8s cs)) := by
  have hts : t.data.toList.length = t.size := by simp
  have hmin : Nat.min t.size dLen = cs.length := by rw [hcs, List.length_take, hts, Nat.min_comm]
  have hst := run_storeCells_cells (P := P) b o (u8s cs) 0 w (by rw [u8s_length]; simpa using hc) (by rw [u8s_length]; simpa using hf) (u8s_one cs)
  have htk : (t.data.toList.map fun x => Value.int .u8 (x.toNat : Int)).take cs.length = u8s cs := by
    have hcl : cs.length = min dLen t.data.toList.length := by rw [hcs, List.length_take]
    rw [← List.map_take, hcl, List.take_eq_take_min.symm, ← hcs]
    rfl
  simp [Builtin.copy_, run_underlying hu, Builtin.lenOf, Builtin.firstCells, hz, hmin]
  rw [htk, hst]
  rfl
/-- 'copy(v, s)' out of a string into a block that is known. -/
theorem wp_copyS (d s : Operand) (dT sT : TypeId) (ho : op.op = .call { callee := .builtin .copy, args := #[d, s], argTypes := #[dT, sT] })
    (elem : TypeId) (hu : P.underlying dT = some (.slice elem)) (hz : ∀ w, (Go.sizeOf elem).run P w = .ok 1 w)
    (g off dLen dCap : Nat) (hd : a.eval d = .slice (some ⟨g, off, none⟩) dLen dCap) (x : ByteArray) (hs : a.eval s = .string x)
    (t : TypeId) (cur : List Value) (hB : Blk w g t cur) (cs : List UInt8) (hcs : cs = x.data.toList.take dLen) (hle : off + cs.length ≤ cur.length)
    (h : ∀ w', Hid (Blk w' g t (spl cur off (u8s cs))) → Hid (Fr (fun k => k = g) w w') → Hid (w'.heap.size = w.heap.size) → K (a.put op.dst (goInt cs.length)) w') : op.wp P a w K Q := by
  have hth := hB.there off cs.length hle
  have hrun := run_copy_str (P := P) w dT sT op.type elem g off dLen dCap x cs hcs hu hz (fun j hj => (hth j hj).1) (fun j hj => (hth j hj).2)
  unfold Oper.wp
  simp [execOp, ho, resolve, invoke, builtin, hd, hs, hrun, Result.andThen]
  exact h _ (hid (hB.sets (u8s cs) off (by rw [u8s_length]; exact hle))) (hid ((Fr.refl (fun k => k = g) w).setCells g off _ (.inl rfl))) (hid (by simp))
/-- 'copy' out of a slice into a block that is known. -/
theorem wp_copyB (d s : Operand) (dT sT : TypeId) (ho : op.op = .call { callee := .builtin .copy, args := #[d, s], argTypes := #[dT, sT] })
    (elem : TypeId) (hu : P.underlying dT = some (.slice elem)) (hsz : (P.info? elem).map (·.size) = some 1)
    (g off dLen dCap : Nat) (sp : Option Addr) (sLen sCap : Nat) (hd : a.eval d = .slice (some ⟨g, off, none⟩) dLen dCap) (hs : a.eval s = .slice sp sLen sCap)
    (t : TypeId) (cur : List Value) (hB : Blk w g t cur) (cs : List Value) (hn : cs.length = Nat.min sLen dLen) (hsrc : ∃ ad, sp = some ad ∧ ∀ j v, cs[j]? = some v → w.cell? (ad.add j) = some v)
    (hle : off + cs.length ≤ cur.length) (h1 : ∀ v ∈ cs, v.oneCell' = true)
    (h : ∀ w', Hid (Blk w' g t (spl cur off cs)) → Hid (Fr (fun k => k = g) w w') → Hid (w'.heap.size = w.heap.size) → K (a.put op.dst (goInt cs.length)) w') : op.wp P a w K Q := by
  obtain ⟨ad, rfl, hsrc'⟩ := hsrc
  have hth := hB.there off cs.length hle
  have hrun := run_copy_cells (P := P) w dT sT op.type elem g off dLen dCap ad sLen sCap cs hu hsz hn hsrc' (fun j hj => (hth j hj).1) (fun j hj => (hth j hj).2) h1
  unfold Oper.wp
  simp [execOp, ho, resolve, invoke, builtin, hd, hs, hrun, Result.andThen]
  exact h _ (hid (hB.sets cs off hle)) (hid ((Fr.refl (fun k => k = g) w).setCells g off _ (.inl rfl))) (hid (by simp))
/-- Three results, the first of which lies in memory. -/
theorem ret_cell3 {fn : Func} {R : Ending → World → Prop} {p q r : Tmp} {ty : TypeId} {b : Nat} {t : TypeId} {cs : List Value} (hr : fn.results = #[.cell p ty, .tmp q, .tmp r]) (d : TypeDesc) (hp : a.tmps.getD p undef = .pointer (some ⟨b, 0, none⟩)) (hB : Blk w b t cs)
    (hu : P.underlying ty = some d) (hd : (match d with | .struct _ | .array _ _ => true | _ => false) = true) (hi : (P.info? ty).map (·.size) = some cs.length) (hdf : a.defers = [])
    (h : R (.returned (.tuple #[.agg cs.toArray, a.tmps.getD q undef, a.tmps.getD r undef])) w) : bodyPost P fn R .ret a w := by
  refine bodyPost_ret ?_ hdf h
  have hp' : a.tmps[p]?.getD undef = .pointer (some ⟨b, 0, none⟩) := by simpa using hp
  simp [results, hr, hp', asAddr, run_loadVar_row w b t ty cs.toArray (0, 0) d hB hu hd (by simpa using hi)]
/-- Three results. -/
theorem ret_three {fn : Func} {R : Ending → World → Prop} {p q r : Tmp} (hr : fn.results = #[.tmp p, .tmp q, .tmp r]) (hdf : a.defers = [])
    (h : R (.returned (.tuple #[a.tmps.getD p undef, a.tmps.getD q undef, a.tmps.getD r undef])) w) : bodyPost P fn R .ret a w := by
  refine bodyPost_ret ?_ hdf h
  simp [results, hr]
end
end Go.Proofs.YthjmkfpdbbfcpaaGreatDoor.K
