/-
  An append to a slice of bytes that has no room: the row is a new one; to nothing more: it is the old one.
-/
import Derived.Test.YtejbanlhgnlliaaDoorOwB
import Derived.Deep.Upon
namespace Go.Proofs.YtejbanlhgnlliaaDoor.K
set_option maxRecDepth 100000
open Go.RowKit

section
variable {ops : Array Oper} {rest : List Oper} {op : Oper} {a : Act} {w : World} {Q : Exit → Act → World → Prop}
theorem run_app_new (ty : TypeId) (w0 : World) (h0 : Fr No w0 w) (b : Addr) (n cap : Nat) (olds : List UInt8) (hlo : olds.length = n) (holds : ∀ j v, (u8s olds)[j]? = some v → w.cell? (b.add j) = some v)
    (ad : Addr) (m c : Nat) (news : List UInt8) (hl : news.length = m) (hnews : ∀ j v, (u8s news)[j]? = some v → w.cell? (ad.add j) = some v) (hg : cap < n + m) (hb : n + m ≤ 140737488355328) :
    ∃ c' w', (Builtin.append_ #[22, 22] ty #[.slice (some b) n cap, .slice (some ad) m c]).run Tryd.prog w = .ok (.slice (some ⟨w.heap.size, 0, none⟩) (n + m) c') w' ∧
      OwB w0 w' (.slice (some ⟨w.heap.size, 0, none⟩) (n + m) c') (olds ++ news) ∧ Fr No w w' := by
  obtain ⟨i, hi, hz, hs, hbb⟩ := Go.info_parts infoB
  have hr := run_append_grow (P := Tryd.prog) w 22 ty 5 i (.int .u8 0) Tryd.underlying22 hi hz b n cap (u8s olds) (by rw [u8s_length, hs, hlo, Nat.mul_one]) holds ad m c (u8s news) (by rw [u8s_length, hs, hl, Nat.mul_one]) hnews hg (by omega)
    (growslice_fits hg (by rw [hbb]; omega))
  refine ⟨_, _, hr, ?_, ?_⟩
  · have hge := grownCap_ge w (n + m) cap 5
    have hcm : grownCap w (n + m) cap 5 ≤ maxLen := grownCap_le_maxLen w (n + m) cap 5 (by unfold maxLen; omega)
    refine ⟨⟨_, _, by rw [List.length_append, hlo, hl]⟩, ?_, ?_⟩
    · have hlen : (olds ++ news).length = n + m := by rw [List.length_append, hlo, hl]
      refine ⟨by simp [u8s_length], .inr ⟨w.heap.size, _, _, by rw [hlen], h0.size, heap_alloc_new w.drew _, by rw [hlen]; exact hge, hcm, ?_, ?_⟩⟩
      · simp only [Array.size_append, List.size_toArray, size_zeroCells, u8s_length, hlo, hl]
        simp [Value.cells]
        omega
      · rw [hlen, u8s_append]
        simp only [Array.toList_append, List.append_assoc]
        rw [← List.append_assoc, show (n + m) * 1 = (u8s olds ++ u8s news).length by simp [u8s_length, hlo, hl]]
        exact List.take_left
    · exact h0.trans' (((Fr.refl No w).drew).alloc _)
  · exact ((Fr.refl No w).drew).alloc _
/-- Something is appended where there is no room. -/
theorem wpL_appNew (hgd : op.guard = none) (s x : Operand) (ho : op.op = .call { callee := .builtin .append, args := #[s, x], argTypes := #[22, 22] }) {w0 : World} (h0 : Fr No w0 w) (b : Addr) (n cap : Nat) (hs : a.eval s = .slice (some b) n cap)
    (olds : List UInt8) (hlo : olds.length = n) (holds : ∀ j v, (u8s olds)[j]? = some v → w.cell? (b.add j) = some v)
    (sp : Option Addr) (m c : Nat) (news : List UInt8) (hx : a.eval x = .slice sp m c) (hl : news.length = m) (hsrc : m = 0 ∨ ∃ ad, sp = some ad ∧ ∀ (j : Nat) (u : Value), (u8s news)[j]? = some u → w.cell? (ad.add j) = some u)
    (hg : cap < n + m) (hle : n ≤ cap) (k : Nat) (hk : n + m = k) (r : List UInt8) (hr : olds ++ news = r) (hb : k ≤ 140737488355328)
    (h : ∀ c' w', Hid (OwB w0 w' (.slice (some ⟨w.heap.size, 0, none⟩) k c') r) → Hid (Fr No w w') → wpList Tryd.prog ops Q rest (a.put op.dst (.slice (some ⟨w.heap.size, 0, none⟩) k c')) w') : wpList Tryd.prog ops Q (op :: rest) a w := by
  subst hk; subst hr
  obtain ⟨ad, rfl, hsrc1⟩ := hsrc.resolve_left (by omega)
  refine wpList_plain hgd fun K hK => ?_
  obtain ⟨c', w', hr, h2, h3⟩ := run_app_new (w := w) op.type w0 h0 b n cap olds hlo holds ad m c news hl hsrc1 hg hb
  unfold Oper.wp execOp
  simp only [ho, resolve, invoke, builtin, Sem.run_bind, Sem.run_pure, Result.andThen_ok, List.map_toArray, List.map_cons, List.map_nil, hs, hx, hr]
  exact hK _ _ (h c' w' (hid h2) (hid h3))
/-- Nothing is appended. -/
theorem wpL_appNone (hgd : op.guard = none) (s x : Operand) (ho : op.op = .call { callee := .builtin .append, args := #[s, x], argTypes := #[22, 22] }) (b : Option Addr) (n cap : Nat) (hs : a.eval s = .slice b n cap) (hle : n ≤ cap)
    (sp : Option Addr) (c : Nat) (hx : a.eval x = .slice sp 0 c) (h : wpList Tryd.prog ops Q rest (a.put op.dst (.slice b n cap)) w) : wpList Tryd.prog ops Q (op :: rest) a w := by
  refine wpList_plain hgd fun K hK => ?_
  obtain ⟨i, hi, hz, hss, hbb⟩ := Go.info_parts infoB
  have hr : (Builtin.append_ #[22, 22] op.type #[.slice b n cap, .slice sp 0 c]).run Tryd.prog w = .ok (.slice b n cap) w := by
    have hf : (Builtin.firstCells i.size 0 (.slice sp 0 c)).run Tryd.prog w = .ok #[] w := by
      cases sp <;> simp [Builtin.firstCells, loadCells, loadCellsFrom]
    cases b <;> simp [Builtin.append_, run_underlying Tryd.underlying22, sizeOf, typeInfo, hi, Builtin.lenOf, hf, Result.andThen, hle, storeCells]
  unfold Oper.wp execOp
  simp only [ho, resolve, invoke, builtin, Sem.run_bind, Sem.run_pure, Result.andThen_ok, List.map_toArray, List.map_cons, List.map_nil, hs, hx, hr]
  exact hK _ _ h
/-- An append to a slice without room, of anything or nothing. -/
theorem wpL_appFull (hgd : op.guard = none) (s x : Operand) (ho : op.op = .call { callee := .builtin .append, args := #[s, x], argTypes := #[22, 22] }) (b o n : Nat) (hs : a.eval s = .slice (some ⟨b, o, none⟩) n n) (hbw : b < w.heap.size)
    (olds : List UInt8) (hlo : olds.length = n) (holds : w.rangeAt b o (u8s olds))
    (sp : Option Addr) (m c : Nat) (news : List UInt8) (hx : a.eval x = .slice sp m c) (hl : news.length = m) (hsrc : m = 0 ∨ ∃ ad, sp = some ad ∧ ∀ (j : Nat) (u : Value), (u8s news)[j]? = some u → w.cell? (ad.add j) = some u)
    (k : Nat) (hk : n + m = k) (r : List UInt8) (hr : olds ++ news = r) (hb : k ≤ 140737488355328)
    (h : ∀ g' o' c' w', Hid (w'.rangeAt g' o' (u8s r)) → Hid (Fr No w w') → Hid (k ≤ c' ∧ g' < w'.heap.size ∧ (m = 0 ∨ g' = w.heap.size)) → wpList Tryd.prog ops Q rest (a.put op.dst (.slice (some ⟨g', o', none⟩) k c')) w') : wpList Tryd.prog ops Q (op :: rest) a w := by
  by_cases hm : m = 0
  · subst hm
    obtain rfl : news = [] := List.eq_nil_of_length_eq_zero hl
    rw [Nat.add_zero] at hk
    subst hk
    rw [List.append_nil] at hr
    subst hr
    exact wpL_appNone hgd s x ho _ n n hs (Nat.le_refl _) sp c hx (h b o n w (hid holds) (hid (Fr.refl _ _)) (hid ⟨Nat.le_refl _, hbw, .inl rfl⟩))
  · refine wpL_appNew hgd s x ho (w0 := w) (Fr.refl _ _) ⟨b, o, none⟩ n n hs olds hlo (range_loads holds) sp m c news hx hl hsrc (by omega) (Nat.le_refl _) k hk r hr hb fun c' w' h1 h2 => ?_
    have hrl : r.length = k := by rw [← hr, List.length_append, hlo, hl]; exact hk
    obtain ⟨a1, l1, c1, e1, e2, e3, e4⟩ := h1.out.bytes
    simp only [Value.slice.injEq] at e1
    obtain ⟨rfl, rfl, rfl⟩ := e1
    obtain ⟨g, go, e5, e6, e7, e8⟩ := e4.resolve_left (by omega)
    cases e5
    exact h _ _ _ _ (hid e8) h2 (hid ⟨e3, e7, .inr rfl⟩)
end
end Go.Proofs.YtejbanlhgnlliaaDoor.K
