/-
  Operations on rows whose elements take k cells: copy, clear, append of zeros. Over any program.
-/
import Derived.Test.YtlnolnaapnijbaaTrO
import Derived.Lib.AppendZerosOnto
import Derived.Lib.SliceRun
import Derived.ArgAppend
import Derived.Lib.Overlaps
import Derived.Laws.Externs
namespace Go.Proofs.Ytlnolnaapnijbaa.TR
set_option maxRecDepth 100000
open Go.RowKit K
section
variable {P : Program} {ops : Array Oper} {rest : List Oper} {op : Oper} {a : Act} {w : World} {Q : Exit → Act → World → Prop}

theorem run_copy_k (w : World) (dT sT ty elem : TypeId) (b o dLen dCap : Nat) (ad : Addr) (sLen sCap k : Nat) (cs : List Value)
    (hu : P.underlying dT = some (.slice elem)) (hs : (P.info? elem).map (·.size) = some k) (hn : cs.length = Nat.min sLen dLen * k)
    (hsrc : ∀ j v, cs[j]? = some v → w.cell? (ad.add j) = some v) (hc : ∀ j, j < cs.length → (w.cell? ⟨b, o + j, none⟩).isSome = true) (hf : ∀ j, j < cs.length → w.frozen? ⟨b, o + j, none⟩ = false) (h1 : ∀ v ∈ cs, v.oneCell' = true) :
    (Builtin.copy_ #[dT, sT] ty #[.slice (some ⟨b, o, none⟩) dLen dCap, .slice (some ad) sLen sCap]).run P w = .ok (goInt (Nat.min sLen dLen)) (w.setCells b o cs) := by
  have hl := run_loadCells_list (P := P) w ad cs hsrc
  have hst := run_storeCells_cells (P := P) b o cs 0 w (by simpa using hc) (by simpa using hf) h1
  cases hq : P.info? elem with
  | none => simp [hq] at hs
  | some i =>
    have hi : i.size = k := by simpa [hq] using hs
    simp [Builtin.copy_, run_underlying hu, Builtin.lenOf, Builtin.firstCells, sizeOf, typeInfo, hq, hi, ← hn, hl, hst]
/-- 'copy' into a block that is known, elements of k cells: at 'Oper.wp'. -/
theorem wp_copyK {K : Act → World → Prop} (d s : Operand) (dT sT : TypeId) (ho : op.op = .call { callee := .builtin .copy, args := #[d, s], argTypes := #[dT, sT] })
    (elem : TypeId) (k : Nat) (hu : P.underlying dT = some (.slice elem)) (hsz : (P.info? elem).map (·.size) = some k)
    (g off dLen dCap : Nat) (ad : Addr) (sLen sCap : Nat) (hd : a.eval d = .slice (some ⟨g, off, none⟩) dLen dCap) (hs : a.eval s = .slice (some ad) sLen sCap)
    (t : TypeId) (cur : List Value) (hB : Blk w g t cur) (cs : List Value) (hn : cs.length = Nat.min sLen dLen * k) (hsrc : ∀ j v, cs[j]? = some v → w.cell? (ad.add j) = some v)
    (hle : off + cs.length ≤ cur.length) (h1 : ∀ v ∈ cs, v.oneCell' = true)
    (h : ∀ w', Hid (Blk w' g t (spl cur off cs)) → Hid (Fr (fun k => k = g) w w') → Hid (w'.heap.size = w.heap.size) → K (a.put op.dst (goInt (Nat.min sLen dLen))) w') : op.wp P a w K Q := by
  have hth := hB.there off cs.length hle
  have hrun := run_copy_k (P := P) w dT sT op.type elem g off dLen dCap ad sLen sCap k cs hu hsz hn hsrc (fun j hj => (hth j hj).1) (fun j hj => (hth j hj).2) h1
  unfold Oper.wp
  simp [execOp, ho, resolve, invoke, builtin, hd, hs, hrun, Result.andThen]
  exact h _ (hid (hB.sets cs off hle)) (hid ((Fr.refl (fun k => k = g) w).setCells g off _ (.inl rfl))) (hid (by simp))
theorem wpL_copyK (hgd : op.guard = none) (d s : Operand) (dT sT : TypeId) (ho : op.op = .call { callee := .builtin .copy, args := #[d, s], argTypes := #[dT, sT] })
    (elem : TypeId) (k : Nat) (hu : P.underlying dT = some (.slice elem)) (hsz : (P.info? elem).map (·.size) = some k)
    (g off dLen dCap : Nat) (ad : Addr) (sLen sCap : Nat) (hd : a.eval d = .slice (some ⟨g, off, none⟩) dLen dCap) (hs : a.eval s = .slice (some ad) sLen sCap)
    (t : TypeId) (cur : List Value) (hB : Blk w g t cur) (cs : List Value) (hn : cs.length = Nat.min sLen dLen * k) (hsrc : ∀ j v, cs[j]? = some v → w.cell? (ad.add j) = some v)
    (hle : off + cs.length ≤ cur.length) (h1 : ∀ v ∈ cs, v.oneCell' = true)
    (h : ∀ w', Hid (Blk w' g t (spl cur off cs)) → Hid (Fr (fun k => k = g) w w') → Hid (w'.heap.size = w.heap.size) → wpList P ops Q rest (a.put op.dst (goInt (Nat.min sLen dLen))) w') : wpList P ops Q (op :: rest) a w :=
  wpList_plain hgd fun _ hK => wp_copyK d s dT sT ho elem k hu hsz g off dLen dCap ad sLen sCap hd hs t cur hB cs hn hsrc hle h1 fun w' a b c => hK _ _ (h w' a b c)

theorem zeroCells_length (z : Array Value) (n : Nat) : (Builtin.zeroCells z n).size = n * z.size := by simp [Builtin.zeroCells]
theorem zeroCells_one (z : Array Value) (n : Nat) (h : ∀ v ∈ z, v.oneCell' = true) : ∀ v ∈ (Builtin.zeroCells z n).toList, v.oneCell' = true := by
  intro v hv
  simp only [Builtin.zeroCells, Array.toList_map, List.mem_map, Array.mem_toList_iff, Array.mem_range] at hv
  obtain ⟨i, hi, rfl⟩ := hv
  have hz : 0 < z.size := by
    rcases Nat.eq_zero_or_pos z.size with h0 | h0
    · rw [h0, Nat.mul_zero] at hi; omega
    · exact h0
  have hm := Nat.mod_lt i hz
  rw [getElem!_pos z _ hm]
  exact h _ (Array.getElem_mem hm)
theorem run_clear_k (w : World) (t e ty : TypeId) (z : Value) (k : Nat) (ht : P.underlying t = some (.slice e)) (hv : ∀ w, (zeroValue e).run P w = .ok z w) (h1 : ∀ v ∈ z.cells, v.oneCell' = true) (b o n c : Nat)
    (hc : ∀ j, j < n * z.cells.size → (w.cell? ⟨b, o + j, none⟩).isSome = true) (hf : ∀ j, j < n * z.cells.size → w.frozen? ⟨b, o + j, none⟩ = false) :
    (Builtin.clear_ #[t] ty #[.slice (some ⟨b, o, none⟩) n c]).run P w = .ok (.tuple #[]) (w.setCells b o (Builtin.zeroCells z.cells n).toList) := by
  have hst := run_storeCells_cells (P := P) b o (Builtin.zeroCells z.cells n).toList 0 w (by simpa [zeroCells_length] using hc) (by simpa [zeroCells_length] using hf) (zeroCells_one _ _ h1)
  simp only [Nat.add_zero] at hst
  rcases Nat.eq_zero_or_pos n with rfl | hn
  · have : (Builtin.zeroCells z.cells 0).toList = [] := by simp [Builtin.zeroCells]
    simp [Builtin.clear_, run_underlying ht, this, World.setCells]
  · obtain ⟨m, rfl⟩ : ∃ m, n = m + 1 := ⟨n - 1, by omega⟩
    simp [Builtin.clear_, run_underlying ht, hv, hst]
/-- 'clear(s)' in a block that is known: what stands there behind is not told. -/
theorem wpL_clearK (hgd : op.guard = none) (x : Operand) (t e : TypeId) (ho : op.op = .call { callee := .builtin .clear, args := #[x], argTypes := #[t] }) (hdst : op.dst = none)
    (z : Value) (k : Nat) (ht : P.underlying t = some (.slice e)) (hv : ∀ w, (zeroValue e).run P w = .ok z w) (hzk : z.cells.size = k) (h1 : ∀ v ∈ z.cells, v.oneCell' = true)
    (g off n c : Nat) (hx : a.eval x = .slice (some ⟨g, off, none⟩) n c) (te : TypeId) (cur : List Value) (hB : Blk w g te cur) (hle : off + n * k ≤ cur.length)
    (h : ∀ w' zs, zs.length = n * k → Hid (Blk w' g te (spl cur off zs)) → Hid (Fr (fun k => k = g) w w') → Hid (w'.heap.size = w.heap.size) → wpList P ops Q rest a w') : wpList P ops Q (op :: rest) a w := by
  refine wpList_plain hgd fun K hK => ?_
  subst hzk
  have hth := hB.there off (n * z.cells.size) hle
  have hrun := run_clear_k (P := P) w t e op.type z z.cells.size ht hv h1 g off n c (fun j hj => (hth j hj).1) (fun j hj => (hth j hj).2)
  have hzl : (Builtin.zeroCells z.cells n).toList.length = n * z.cells.size := by simp [zeroCells_length]
  unfold Oper.wp
  simp [execOp, ho, resolve, invoke, builtin, hx, hrun, Result.andThen]
  have := hK _ _ (h _ _ hzl (hid (hB.sets _ off (by rw [hzl]; exact hle))) (hid ((Fr.refl (fun k => k = g) w).setCells g off _ (.inl rfl))) (hid (by simp)))
  show K (a.put op.dst (Value.tuple #[])) _
  rw [hdst]
  exact this
/-- 'append(s[:i], make([]T, m)...)' without room. -/
theorem wpL_appendZ (hgd : op.guard = none) (s x : Operand) (t tn : TypeId) (ho : op.op = .call { callee := .builtin .append, args := #[s, x], argTypes := #[t, tn] })
    (e : TypeId) (i : TypeInfo) (z : Value) (k : Nat) (kq kn : IntKind) (ht : P.underlying t = some (.slice e)) (htn : P.underlying tn = some (.int kn)) (hi : P.info? e = some i) (hz : i.zero = some z) (hik : i.size = k) (hzk : z.cells.size = k) (hk : 0 < k)
    (g sLen sCap m : Nat) (hs : a.eval s = .slice (some ⟨g, 0, none⟩) sLen sCap) (hx : a.eval x = .int kq m) (te : TypeId) (cur : List Value) (hB : Blk w g te cur) (olds : List Value) (hol : olds.length = sLen * k) (hot : cur.take (sLen * k) = olds)
    (hm : 0 < m) (hc0 : 0 < sCap) (hroom : sLen + m = sCap + 1) (hmax : sCap + 1 ≤ maxLen) (hby : (sCap + 1) * i.bytes ≤ 140737488355328)
    (h : ∀ w' zs cap', sCap + 1 ≤ cap' → cap' ≤ maxLen → (olds ++ zs).length = cap' * k → Hid (Blk w' w.heap.size e (olds ++ zs)) → Hid (Fr No w w') → Hid (w'.heap.size = w.heap.size + 1) →
      wpList P ops Q rest (a.put op.dst (.slice (some ⟨w.heap.size, 0, none⟩) (sLen + m) cap')) w') : wpList P ops Q (op :: rest) a w := by
  have hcells : ∀ j v, olds[j]? = some v → w.drew.cell? ((⟨g, 0, none⟩ : Addr).add j) = some v := fun j v hj => by
    have hl : j < olds.length := (List.getElem?_eq_some_iff.1 hj).1
    rw [Addr.add_mid, Nat.zero_add, hB.drew.cell]
    rw [← hot, List.getElem?_take] at hj
    rw [← hj, if_pos (by omega)]
  have hold := run_firstCells_some (P := P) w.drew i.size sLen ⟨g, 0, none⟩ sLen sCap olds (by rw [hik]; exact hol) hcells
  have hfit : Builtin.nextslicecap (sLen + m) sCap * i.bytes ≤ 281474976710656 := by
    have h1 := nextslicecap_succ (old := sCap) hc0
    rw [hroom]
    have h2 : Builtin.nextslicecap (sCap + 1) sCap * i.bytes ≤ 2 * sCap * i.bytes := Nat.mul_le_mul_right _ h1
    have h3 : (sCap + 1) * i.bytes = sCap * i.bytes + i.bytes := Nat.succ_mul _ _
    rw [Nat.mul_assoc] at h2
    omega
  have hmx : sCap + 1 ≤ 9223372036854775807 := Nat.le_trans hmax (by unfold maxLen; decide)
  have hmb : m * i.bytes ≤ 281474976710656 := by
    have : m * i.bytes ≤ (sCap + 1) * i.bytes := Nat.mul_le_mul_right _ (by omega)
    omega
  have hrun := Lib.run_append_grow_zeros (P := P) w t tn op.type e i z kq kn ht htn hi hz (some ⟨g, 0, none⟩) sLen sCap olds hold m hm (by omega) (by omega) (by omega) hmb hfit
  have hg1 := grownCap_ge w (sLen + m) sCap e
  have hg2 := grownCap_le_maxLen w (sLen + m) sCap e (by omega)
  generalize hcap : grownCap w (sLen + m) sCap e = cap' at *
  refine wpList_plain hgd fun K hK => ?_
  have hB' : Blk (w.drew.alloc (.cells (olds.toArray ++ Builtin.zeroCells z.cells m ++ Builtin.zeroCells z.cells (cap' - (sLen + m))) e)) w.heap.size e (olds ++ ((Builtin.zeroCells z.cells m).toList ++ (Builtin.zeroCells z.cells (cap' - (sLen + m))).toList)) := by
    have := Blk.new w.drew e (olds ++ ((Builtin.zeroCells z.cells m).toList ++ (Builtin.zeroCells z.cells (cap' - (sLen + m))).toList))
    have e : olds.toArray ++ Builtin.zeroCells z.cells m ++ Builtin.zeroCells z.cells (cap' - (sLen + m)) = (olds ++ ((Builtin.zeroCells z.cells m).toList ++ (Builtin.zeroCells z.cells (cap' - (sLen + m))).toList)).toArray := by
      apply Array.ext'; simp
    rw [e]
    exact this
  have := hK _ _ (h _ _ cap' (by omega) hg2 (by
    simp only [List.length_append, Array.length_toList, zeroCells_length, hol, hzk]
    rw [← Nat.add_mul, ← Nat.add_mul]
    congr 1; omega) (hid hB') (hid ((Fr.refl No w).drew.alloc _)) (hid (by simp)))
  unfold Oper.wp execOp
  simp only [ho, resolve, invoke, builtin, Sem.run_bind, Sem.run_pure, Result.andThen_ok, List.map_toArray, List.map_cons, List.map_nil, hs, hx, hrun]
  exact this
theorem run_storeV (w : World) (b o : Nat) (ty : TypeId) (v : Value) (vs : List Value) (hvs : v.cells = vs.toArray) (ht : w.there b o vs.length) (hi : (P.info? ty).map (·.size) = some vs.length) (h1 : ∀ u ∈ vs, u.oneCell' = true) :
    (storeVar ty ⟨b, o, none⟩ v).run P w = .ok () (w.setCells b o vs) := by
  have := run_storeCells_cells (P := P) b o vs 0 w (fun j hj => by simpa using (ht j (by simpa using hj)).1) (fun j hj => by simpa using (ht j (by simpa using hj)).2) h1
  cases hq : P.info? ty with
  | none => simp [hq] at hi
  | some i =>
    have hi' : i.size = vs.length := by simpa [hq] using hi
    simp [storeVar, sizeOf, typeInfo, hq, hi', hvs, this]
/-- Any value is stored into a block that is known. -/
theorem wp_storeV {K : Act → World → Prop} (ty : TypeId) (x y : Operand) (ho : op.op = .store ty x y) (b o : Nat) (v : Value) (vs : List Value) (hx : a.eval x = .pointer (some ⟨b, o, none⟩)) (hy : a.eval y = v) (hvs : v.cells = vs.toArray)
    (t : TypeId) (cs : List Value) (hB : Blk w b t cs) (hle : o + vs.length ≤ cs.length) (hi : (P.info? ty).map (·.size) = some vs.length) (h1 : ∀ u ∈ vs, u.oneCell' = true)
    (h : ∀ w', Hid (Blk w' b t (spl cs o vs)) → Hid (Fr (fun k => k = b) w w') → Hid (w'.heap.size = w.heap.size) → K (a.put op.dst undef) w') : op.wp P a w K Q := by
  unfold Oper.wp execOp
  simp only [ho, hx, hy, Instr.storeAt, Instr.sureAddr, Sem.run_bind, Sem.run_pure, Result.andThen_ok, run_storeV w b o ty v vs hvs (hB.there o vs.length hle) hi h1]
  exact h _ (hid (hB.sets vs o hle)) (hid ((Fr.refl (fun k => k = b) w).setCells b o vs (.inl rfl))) (hid (by simp))
theorem wpL_storeV (hgd : op.guard = none) (ty : TypeId) (x y : Operand) (ho : op.op = .store ty x y) (b o : Nat) (v : Value) (vs : List Value) (hx : a.eval x = .pointer (some ⟨b, o, none⟩)) (hy : a.eval y = v) (hvs : v.cells = vs.toArray)
    (t : TypeId) (cs : List Value) (hB : Blk w b t cs) (hle : o + vs.length ≤ cs.length) (hi : (P.info? ty).map (·.size) = some vs.length) (h1 : ∀ u ∈ vs, u.oneCell' = true)
    (h : ∀ w', Hid (Blk w' b t (spl cs o vs)) → Hid (Fr (fun k => k = b) w w') → Hid (w'.heap.size = w.heap.size) → wpList P ops Q rest (a.put op.dst undef) w') : wpList P ops Q (op :: rest) a w :=
  wpList_plain hgd fun _ hK => wp_storeV ty x y ho b o v vs hx hy hvs t cs hB hle hi h1 fun w' a b c => hK _ _ (h w' a b c)
/-- 'append(s, x...)' in place. -/
theorem wp_appendR {K : Act → World → Prop} (s x : Operand) (t : TypeId) (ho : op.op = .call { callee := .builtin .append, args := #[s, x], argTypes := #[t, t] })
    (e : TypeId) (i : TypeInfo) (k : Nat) (ht : P.underlying t = some (.slice e)) (hi : P.info? e = some i) (hik : i.size = k)
    (g sLen sCap m c : Nat) (ad : Addr) (hs : a.eval s = .slice (some ⟨g, 0, none⟩) sLen sCap) (hx : a.eval x = .slice (some ad) m c) (te : TypeId) (cur : List Value) (hB : Blk w g te cur)
    (news : List Value) (hl : news.length = m * k) (hsrc : ∀ j u, news[j]? = some u → w.cell? (ad.add j) = some u) (h1 : ∀ u ∈ news, u.oneCell' = true) (hroom : sLen + m ≤ sCap) (hle : sLen * k + news.length ≤ cur.length)
    (h : ∀ w', Hid (Blk w' g te (spl cur (sLen * k) news)) → Hid (Fr (fun k => k = g) w w') → Hid (w'.heap.size = w.heap.size) → K (a.put op.dst (.slice (some ⟨g, 0, none⟩) (sLen + m) sCap)) w') : op.wp P a w K Q := by
  have hth := hB.there (sLen * k) news.length hle
  have hrun := run_append_room_cells (P := P) w t op.type e i ht hi g 0 sLen sCap ad m c news (by rw [hik]; exact hl) hsrc h1 hroom (by rw [hik]; intro j hj; rw [Nat.zero_add]; exact (hth j hj).1) (by rw [hik]; intro j hj; rw [Nat.zero_add]; exact (hth j hj).2)
  rw [hik, Nat.zero_add] at hrun
  unfold Oper.wp execOp
  simp only [ho, resolve, invoke, builtin, Sem.run_bind, Sem.run_pure, Result.andThen_ok, List.map_toArray, List.map_cons, List.map_nil, hs, hx, hrun]
  exact h _ (hid (hB.sets news _ hle)) (hid ((Fr.refl (fun k => k = g) w).setCells g _ _ (.inl rfl))) (hid (by simp))
end
end Go.Proofs.Ytlnolnaapnijbaa.TR
