/-
  'append(v, make([]byte, n)...)' to a row of bytes that a call made itself; guarded reads in a plain region.
-/
import Derived.Test.YtejbanlhgnlliaaDoorShaF
import Derived.Lib.AppendZerosOnto
namespace Go.Proofs.YtejbanlhgnlliaaDoor.K
set_option maxRecDepth 100000
open Go.RowKit

section
variable {ops : Array Oper} {rest : List Oper} {op : Oper} {a : Act} {w : World} {Q : Exit → Act → World → Prop}
theorem zeros_one (m : Nat) : (Builtin.zeroCells (Value.int .u8 0).cells m).toList = u8s (List.replicate m (0 : UInt8)) := by
  simp only [Builtin.zeroCells, Value.cells, u8s, List.map_replicate]
  refine List.ext_getElem (by simp) fun i h1 h2 => ?_
  simp [Nat.mod_one]
theorem run_append_room_zeros (ty : TypeId) (g n cap m : Nat) (hroom : n + m ≤ cap) (hm : m ≤ 140737488355328) (hc : ∀ j, j < m → (w.cell? ⟨g, n + j, none⟩).isSome = true) (hf : ∀ j, j < m → w.frozen? ⟨g, n + j, none⟩ = false) :
    (Builtin.append_ #[22, 3] ty #[.slice (some ⟨g, 0, none⟩) n cap, .int .i64 m]).run Tryd.prog w = .ok (.slice (some ⟨g, 0, none⟩) (n + m) cap) (w.setCells g n (u8s (List.replicate m 0))) := by
  obtain ⟨i, hi, hz, hs, hbb⟩ := Go.info_parts infoB
  have hw : IntKind.i64.wrap (m : Int) = m := by rw [IntKind.wrap_i64]; omega
  have hneg : ¬ ((m : Int) < 0) := by omega
  have h48i : ¬ (281474976710656 < (m : Int) * (i.bytes : Int)) := by rw [hbb]; omega
  have hst := run_storeCells_cells (P := Tryd.prog) g n (u8s (List.replicate m 0)) 0 w (by simpa [u8s_length] using hc) (by simpa [u8s_length] using hf) (u8s_one _)
  simp only [Nat.add_zero] at hst
  by_cases h0 : m = 0
  · subst h0
    have hw0 : IntKind.i64.wrap 0 = 0 := by decide
    have hroom0 : n ≤ cap := by omega
    simp [hw0, hroom0, Builtin.append_, run_underlying Tryd.underlying22, run_underlying Tryd.underlying3, sizeOf, typeInfo, zeroValue, hi, hz, hs, asInt, asIntOf, hw, hneg, h48i, hroom, storeCells, u8s, World.setCells]
  · have hz1 := zeros_one m
    have e : (⟨g, 0, none⟩ : Addr).add (n * 1) = ⟨g, n, none⟩ := by rw [Addr.add_mid]; simp
    simp [Builtin.append_, run_underlying Tryd.underlying22, run_underlying Tryd.underlying3, sizeOf, typeInfo, zeroValue, hi, hz, hs, h0, asInt, asIntOf, hw, hneg, h48i, hroom, hz1, Addr.add_lit, hst]
theorem wpL_appZ (hgd : op.guard = none) (s x : Operand) (ho : op.op = .call { callee := .builtin .append, args := #[s, x], argTypes := #[22, 3] }) {w0 : World} {v : Value} {l : List UInt8} (hown : OwB w0 w v l) (hsome : v.ownBlock ≠ none) (hv : a.eval s = v)
    (m : Nat) (hx : a.eval x = .int .i64 (m : Int)) (n : Nat) (hn : l.length + m = n) (r : List UInt8) (hr : l ++ List.replicate m 0 = r) (hb : n ≤ 140737488355328)
    (h : ∀ a' cap' w', Hid (OwB w0 w' (.slice a' n cap') r) → Hid (Fr (fun k => v.ownBlock = some k) w w') → wpList Tryd.prog ops Q rest (a.put op.dst (.slice a' n cap')) w') : wpList Tryd.prog ops Q (op :: rest) a w := by
  subst hn; subst hr
  obtain ⟨hsl, hrow, hfr⟩ := hown
  rcases hrow.2 with ⟨rfl, _⟩ | ⟨g, cap, cur, rfl, hbg, hg, hnc, hcm, hcs, htake⟩
  · exact absurd rfl hsome
  have hB : Blk w g 5 cur.toList := by simpa [Blk] using hg
  have hcs1 : cur.toList.length = cap := by simpa using hcs
  have hrl : (l ++ List.replicate m (0 : UInt8)).length = l.length + m := by simp
  refine wpList_plain hgd fun K hK => ?_
  by_cases hroom : l.length + m ≤ cap
  · have hth := hB.there l.length m (by omega)
    have hrun := run_append_room_zeros (w := w) op.type g l.length cap m hroom (by omega) (fun j hj => (hth j hj).1) (fun j hj => (hth j hj).2)
    unfold Oper.wp execOp
    simp only [ho, resolve, invoke, builtin, Sem.run_bind, Sem.run_pure, Result.andThen_ok, List.map_toArray, List.map_cons, List.map_nil, hv, hx, hrun]
    have hf1 : Fr (fun k => (Value.slice (some ⟨g, 0, none⟩) l.length cap).ownBlock = some k) w (w.setCells g l.length (u8s (List.replicate m 0))) := (Fr.refl _ w).setCells g l.length _ (.inl rfl)
    refine hK _ _ (h _ _ _ (hid ⟨⟨_, _, by rw [hrl]⟩, ?_, hfr.trans hf1 fun k e => .inr (by cases e; exact hbg)⟩) (hid hf1))
    have hs := hB.sets (u8s (List.replicate m 0)) l.length (by rw [u8s_length, List.length_replicate]; omega)
    rw [hrl]
    refine hs.own hbg (by rw [u8s_length, hrl, Nat.mul_one]) hroom hcm (by rw [spl_length _ _ _ (by rw [u8s_length, List.length_replicate]; omega), hcs1, Nat.mul_one]) ?_
    have ht : cur.toList.take l.length = u8s l := by simpa using htake
    unfold spl
    rw [ht, Nat.mul_one, u8s_append, List.take_left' (by simp [u8s_length])]
  · obtain ⟨i, hi, hz, hs, hbb⟩ := Go.info_parts infoB
    have hold := run_firstCells_some (P := Tryd.prog) w.drew i.size l.length ⟨g, 0, none⟩ l.length cap (u8s l) (by rw [u8s_length, hs, Nat.mul_one]) (hrow.cells (g := g) rfl)
    have hrun := Lib.run_append_grow_zeros (P := Tryd.prog) w 22 3 op.type 5 i (.int .u8 0) .i64 .i64 Tryd.underlying22 Tryd.underlying3 hi hz (some ⟨g, 0, none⟩) l.length cap (u8s l) hold m (by omega) (by omega) (by omega) (by omega) (by rw [hbb]; omega) (growslice_fits (by omega) (by rw [hbb]; omega))
    have hg1 := grownCap_ge w (l.length + m) cap 5
    have hg2 := grownCap_le_maxLen w (l.length + m) cap 5 (by unfold maxLen; omega)
    unfold Oper.wp execOp
    simp only [ho, resolve, invoke, builtin, Sem.run_bind, Sem.run_pure, Result.andThen_ok, List.map_toArray, List.map_cons, List.map_nil, hv, hx, hrun]
    refine hK _ _ (h _ _ _ (hid ⟨⟨_, _, by rw [hrl]⟩, ?_, hfr.trans' (((Fr.refl No w).drew).alloc _)⟩) (hid (((Fr.refl _ w).drew).alloc _)))
    refine ⟨by simp [u8s_length], .inr ⟨w.heap.size, _, _, by rw [hrl], hfr.size, heap_alloc_new w.drew _, by rw [hrl]; exact hg1, hg2, ?_, ?_⟩⟩
    · have h1 : (Builtin.zeroCells (Value.int .u8 0).cells m).size = m := by rw [← Array.length_toList, zeros_one, u8s_length, List.length_replicate]
      have h2 : (Builtin.zeroCells (Value.int .u8 0).cells (grownCap w (l.length + m) cap 5 - (l.length + m))).size = grownCap w (l.length + m) cap 5 - (l.length + m) := by rw [← Array.length_toList, zeros_one, u8s_length, List.length_replicate]
      simp only [Array.size_append, List.size_toArray, u8s_length, h1, h2]
      omega
    · rw [hrl, u8s_append]
      simp only [Array.toList_append, zeros_one]
      rw [List.take_left' (by simp [u8s_length])]
/-- A guarded operation that is wanted and yields a value. -/
theorem wpL_val {P : Program} (hw : Region.wanted op (yielded ops a.tmps) = true) (v : Value) (hy : (execOp a.eval op).run P w = .ok (.value v) w) (h : wpList P ops Q rest (a.put op.dst v) w) : wpList P ops Q (op :: rest) a w := by
  unfold wpList
  rw [if_pos hw]
  left
  unfold Oper.wp
  rw [hy]
  exact h
end
end Go.Proofs.YtejbanlhgnlliaaDoor.K
