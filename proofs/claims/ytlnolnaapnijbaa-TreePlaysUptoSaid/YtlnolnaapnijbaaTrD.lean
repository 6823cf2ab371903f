/-
  Nodes: more words.
-/
import Derived.Test.YtlnolnaapnijbaaTrB
namespace Go.Proofs.Ytlnolnaapnijbaa.TR
set_option maxRecDepth 100000
open Go.RowKit K

theorem own_src {w : World} {e : TypeId} {k n c : Nat} {a : Option Addr} {xs : List Value} (h : w.ownsRow 0 e k (.slice a n c) n xs) : n = 0 ∨ ∃ ad, a = some ad ∧ ∀ j u, xs[j]? = some u → w.cell? (ad.add j) = some u := by
  rcases Nat.eq_zero_or_pos n with h0 | h0
  · exact .inl h0
  · right
    obtain ⟨g, cap, cur, hv, hB, -, -, -, ht⟩ := own_open h h0
    cases hv
    refine ⟨_, rfl, fun j u hj => ?_⟩
    rw [Addr.add_mid, Nat.zero_add, hB.cell]
    rw [← ht, List.getElem?_take] at hj
    split at hj
    · exact hj
    · cases hj
/-- A variable of a given value, as one operation of a region. -/
theorem wp_box {P : Program} {Q : Exit → Act → World → Prop} {K : Act → World → Prop} {op : Oper} {a : Act} {w : World} (t : TypeId) (x : Operand) (ho : op.op = .box t x) (v : Value) (hv : a.eval x = v) (cs : List Value) (hcs : v.cells = cs.toArray)
    (h : ∀ w', Hid (Blk w' w.heap.size t cs) → Hid (Fr No w w') → Hid (w'.heap.size = w.heap.size + 1) → K (a.put op.dst (.pointer (some ⟨w.heap.size, 0, none⟩))) w') : op.wp P a w K Q := by
  unfold Oper.wp
  have h1 := h (w.alloc (.cells v.cells t)) (hid (by rw [hcs]; exact Blk.new w t cs)) (hid ((Fr.refl _ _).alloc _)) (hid (by simp))
  simp [execOp, ho, Instr.box, hv, newVar, newRow, Result.andThen]
  exact h1
/-- A new node. -/
def FreshNd (w : World) (T e : TypeId) (k : Nat) (ks : List S) (cs : List Value) (r : Ending) (w' : World) : Prop :=
  ∃ b kv cv, r = .returned (.pointer (some ⟨b, 0, none⟩)) ∧ NdAt w' T e k b kv cv ks cs ∧ Fr No w w' ∧ ∀ g, Own b kv cv g → w.heap.size ≤ g
/-- A node is cut: the old one and a new one. -/
def CutNd (w : World) (T e : TypeId) (k b : Nat) (kv cv : Value) (ks ks' : List S) (cs cs' : List Value) (r : Ending) (w' : World) : Prop :=
  ∃ b' kv' cv' kv1 cv1, r = .returned (.pointer (some ⟨b', 0, none⟩)) ∧ NdAt w' T e k b' kv' cv' ks' cs' ∧ NdAt w' T e k b kv1 cv1 ks cs ∧ Fr (Own b kv cv) w w' ∧ (∀ g, Own b' kv' cv' g → w.heap.size ≤ g) ∧
    (∀ g, Own b kv1 cv1 g → Own b kv cv g ∨ w.heap.size ≤ g) ∧ ∀ g, Own b kv1 cv1 g → ¬ Own b' kv' cv' g
theorem put_nil {w w' : World} {e : TypeId} {k n : Nat} {xs : List Value} {r : Ending} (h : Put w e k (.slice none 0 0) n xs r w') : ∃ a c, r = .returned (.slice a n c) ∧ w'.ownsRow 0 e k (.slice a n c) n xs ∧ Fr No w w' ∧ ∀ g, (Value.slice a n c).ownBlock = some g → w.heap.size ≤ g := by
  obtain ⟨v, rfl, h1, h2, h3⟩ := h
  obtain ⟨a, c, rfl, -, -⟩ := own_form h1
  exact ⟨a, c, rfl, h1, h2.mono (fun k hk => by cases hk), fun g hg => (h3 g hg).elim (fun e => by cases e) id⟩
end Go.Proofs.Ytlnolnaapnijbaa.TR
