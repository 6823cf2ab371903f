/-
  Laws for single operations on texts; slices of elements; names in memory.
-/
import Derived.Test.YthjmkfpdbbfcpaaGreatDoorChecked
import Derived.Test.YthjmkfpdbbfcpaaGreatDoorBeO
import Derived.Test.YthjmkfpdbbfcpaaGreatDoorConv
import Derived.Test.YthjmkfpdbbfcpaaGreatDoorDnD
set_option linter.unusedVariables false
set_option linter.unusedSimpArgs false
namespace Go.Proofs.YthjmkfpdbbfcpaaGreatDoor.DN
set_option maxRecDepth 100000
open Go.RowKit K Go.Proofs.YthjmkfpdbbfcpaaGreatDoor.BE

theorem index_str (l : B) (i : Nat) (b : UInt8) (h : l[i]? = some b) (w : World) : (Instr.index 9 (.string (sb l)) (.int .i64 (i : Int))).run Tryz.prog w = .ok (.int .u8 (b.toNat : Int)) w := by
  rw [Go.run_index_string (P := Tryz.prog) w 9 (sb l) .i64 (i : Int) Tryz.underlying9]
  obtain ⟨hl, hb⟩ := List.getElem?_eq_some_iff.1 h
  have hz : (sb l).size = l.length := sb_size l
  have h1 : (0 : Int) ≤ (i : Int) ∧ (i : Int) < (sb l).size := ⟨by omega, by omega⟩
  rw [dif_pos h1]
  have h2 : ((sb l)[(i : Int).toNat]'(by omega)) = b := hb
  rw [h2]
theorem exec_idx {op : Oper} {a : Act} (x y : Operand) (ho : op.op = .index 9 x y) (l : B) (i : Nat) (b : UInt8) (hi : l[i]? = some b) (n : Int) (hn : n = (i : Int)) (hx : a.eval x = .string (sb l)) (hy : a.eval y = .int .i64 n) (w : World) : (execOp a.eval op).run Tryz.prog w = .ok (.value (.int .u8 (b.toNat : Int))) w := by
  have h := index_str l i b hi w
  subst hn
  simp [execOp, ho, hx, hy, h]
theorem slice_two (l : B) (m k : Nat) (h1 : m ≤ k) (h2 : k ≤ l.length) (w : World) : (Instr.slice 9 (.string (sb l)) (some (.int .i64 (m : Int))) (some (.int .i64 (k : Int))) none).run Tryz.prog w = .ok (.string (sb ((l.drop m).take (k - m)))) w := by
  rw [← ext_sb]
  have hz : (sb l).size = l.length := sb_size l
  have hj : (k : Int) ≤ ((sb l).size : Int) := by omega
  simp [Instr.slice, Instr.sliceBounds, Instr.sliceBound, asIntOf, run_underlying Tryz.underlying9, hj, h1]
  intro hc
  omega
theorem slice_to (l : B) (k : Nat) (h2 : k ≤ l.length) (w : World) : (Instr.slice 9 (.string (sb l)) none (some (.int .i64 (k : Int))) none).run Tryz.prog w = .ok (.string (sb (l.take k))) w := by
  rw [show sb (l.take k) = (sb l).extract 0 k by rw [ext_sb, List.drop_zero, Nat.sub_zero]]
  have hz : (sb l).size = l.length := sb_size l
  have hj : (k : Int) ≤ ((sb l).size : Int) := by omega
  simp [Instr.slice, Instr.sliceBounds, Instr.sliceBound, asIntOf, run_underlying Tryz.underlying9, hj]
  intro hc
  omega
theorem slice_from (l : B) (m : Nat) (h2 : m ≤ l.length) (w : World) : (Instr.slice 9 (.string (sb l)) (some (.int .i64 (m : Int))) none none).run Tryz.prog w = .ok (.string (sb (l.drop m))) w := by
  have hz : (sb l).size = l.length := sb_size l
  rw [show sb (l.drop m) = (sb l).extract m (sb l).size by rw [ext_sb, List.take_of_length_le (by rw [List.length_drop, hz]; exact Nat.le_refl _)]]
  have hj : (m : Int) ≤ ((sb l).size : Int) := by omega
  simp [Instr.slice, Instr.sliceBounds, Instr.sliceBound, asIntOf, run_underlying Tryz.underlying9, hj]
  intro hc
  omega
theorem exec_two {op : Oper} {a : Act} (x g h : Operand) (ho : op.op = .slice 9 x (some g) (some h) none) (l : B) (m k : Nat) (hx : a.eval x = .string (sb l)) (hg : a.eval g = .int .i64 (m : Int)) (hh : a.eval h = .int .i64 (k : Int)) (h1 : m ≤ k) (h2 : k ≤ l.length) (r : B) (hr : (l.drop m).take (k - m) = r) (w : World) :
    (execOp a.eval op).run Tryz.prog w = .ok (.value (.string (sb r))) w := by
  subst hr
  unfold execOp
  simp only [ho, Option.map_none, Option.map_some, hx, hg, hh]
  simp [Instr.sliceAt, slice_two l m k h1 h2 w, Result.andThen]
theorem exec_to {op : Oper} {a : Act} (x h : Operand) (ho : op.op = .slice 9 x none (some h) none) (l : B) (k : Nat) (hx : a.eval x = .string (sb l)) (hh : a.eval h = .int .i64 (k : Int)) (h2 : k ≤ l.length) (r : B) (hr : l.take k = r) (w : World) :
    (execOp a.eval op).run Tryz.prog w = .ok (.value (.string (sb r))) w := by
  subst hr
  unfold execOp
  simp only [ho, Option.map_none, Option.map_some, hx, hh]
  simp [Instr.sliceAt, slice_to l k h2 w, Result.andThen]
theorem exec_from {op : Oper} {a : Act} (x h : Operand) (ho : op.op = .slice 9 x (some h) none none) (l : B) (k : Nat) (hx : a.eval x = .string (sb l)) (hh : a.eval h = .int .i64 (k : Int)) (h2 : k ≤ l.length) (r : B) (hr : l.drop k = r) (w : World) :
    (execOp a.eval op).run Tryz.prog w = .ok (.value (.string (sb r))) w := by
  subst hr
  unfold execOp
  simp only [ho, Option.map_none, Option.map_some, hx, hh]
  simp [Instr.sliceAt, slice_from l k h2 w, Result.andThen]
theorem neq_sb (a b : B) : ((sb a).toList == (sb b).toList) = decide (a = b) := by
  rw [ByteArray.toList_eq, ByteArray.toList_eq, sb_list, sb_list]
  by_cases h : a = b
  · subst h; simp
  · rw [decide_eq_false h]; exact beq_false_of_ne h
theorem exec_eqS {op : Oper} {a : Act} (x y : Operand) (u : TypeId) (ho : op.op = .binOp .eql 9 x y u) (p q : B) (hx : a.eval x = .string (sb p)) (hy : a.eval y = .string (sb q)) (w : World) :
    (execOp a.eval op).run Tryz.prog w = .ok (.value (.bool (decide (p = q)))) w := by
  unfold execOp
  simp only [ho, hx, hy]
  rw [← neq_sb]
  simp [go_sem, eqGuard, Result.andThen]
theorem exec_neS {op : Oper} {a : Act} (x y : Operand) (u : TypeId) (ho : op.op = .binOp .neq 9 x y u) (p q : B) (hx : a.eval x = .string (sb p)) (hy : a.eval y = .string (sb q)) (w : World) :
    (execOp a.eval op).run Tryz.prog w = .ok (.value (.bool (!decide (p = q)))) w := by
  unfold execOp
  simp only [ho, hx, hy]
  rw [← neq_sb]
  simp [go_sem, eqGuard, Result.andThen, bne]
theorem run_add_str {a b : ByteArray} (h : a.size + b.size ≤ 9223372036854775807) {w : World} : (binOp .add 9 (.string a) (.string b)).run Tryz.prog w = .ok (.string (a ++ b)) w := by
  simp [binOp, run_string_add_sum w a b h]
theorem exec_addS {op : Oper} {a : Act} (x y : Operand) (u : TypeId) (ho : op.op = .binOp .add 9 x y u) (p q : B) (hx : a.eval x = .string (sb p)) (hy : a.eval y = .string (sb q)) (h : p.length + q.length ≤ 9223372036854775807) (r : B) (hr : p ++ q = r) (w : World) :
    (execOp a.eval op).run Tryz.prog w = .ok (.value (.string (sb r))) w := by
  subst hr
  unfold execOp
  simp only [ho, hx, hy]
  simp [run_add_str (a := sb p) (b := sb q) (by rw [sb_size, sb_size]; exact h), sb_append, eqGuard, Result.andThen]
/-- Texts as cells. -/
def strs (L : List B) : List Value := L.map fun l => .string (sb l)
@[simp] theorem strs_length (L : List B) : (strs L).length = L.length := by simp [strs]
theorem strs_one (L : List B) : ∀ v ∈ strs L, v.oneCell' = true := by
  intro v hv
  obtain ⟨l, _, rfl⟩ := List.mem_map.1 hv
  rfl
theorem infoS3 : (Tryz.prog.info? 9).map (fun i => (i.zero, i.size, i.bytes)) = some (some (.string ⟨#[]⟩), 1, 16) := by kernel_rfl
theorem infoS : (Tryz.prog.info? 9).map (·.size) = some 1 := by kernel_rfl
theorem infoSs : (Tryz.prog.info? 45).map (·.size) = some 1 := by kernel_rfl
theorem zeroSs : ∀ w, (zeroValue 45).run Tryz.prog w = .ok (.slice none 0 0) w := fun _ => by kernel_rfl
theorem zeroS : ∀ w, (zeroValue 9).run Tryz.prog w = .ok (.string ⟨#[]⟩) w := fun _ => by kernel_rfl

def Sz (s : B) : Prop := s.length ≤ 140737488351232
/-- A slice of elements of k cells each; they lie in a block of S. -/
def Sl {α : Type} (k : Nat) (p : α → List Value → Prop) (S : Nat → Prop) (w : World) (v : Value) (xs : List α) : Prop :=
  ∃ a cap, v = .slice a xs.length cap ∧ xs.length ≤ cap ∧ xs.length ≤ 140737488351232 ∧
    (xs = [] ∨ ∃ g o, ∃ L : List (List Value), a = some ⟨g, o, none⟩ ∧ S g ∧ g < w.heap.size ∧ w.rangeAt g o L.flatten ∧ L.length = xs.length ∧ (∀ c ∈ L, c.length = k) ∧ ∀ (j : Nat) (x : α) (c : List Value), xs[j]? = some x → L[j]? = some c → p x c)
theorem Sl.form {α : Type} {k : Nat} {p : α → List Value → Prop} {S : Nat → Prop} {w : World} {v : Value} {xs : List α} (h : Sl k p S w v xs) : ∃ a cap, v = .slice a xs.length cap ∧ xs.length ≤ cap ∧ xs.length ≤ 140737488351232 := by
  obtain ⟨a, cap, h1, h2, h3, -⟩ := h
  exact ⟨a, cap, h1, h2, h3⟩
theorem Sl.get {α : Type} {k : Nat} {p : α → List Value → Prop} {S : Nat → Prop} {w : World} {v : Value} {xs : List α} (h : Sl k p S w v xs) {j : Nat} {x : α} (hx : xs[j]? = some x) :
    ∃ g o cap c, v = .slice (some ⟨g, o, none⟩) xs.length cap ∧ S g ∧ g < w.heap.size ∧ w.rangeAt g (o + j * k) c ∧ c.length = k ∧ p x c := by
  obtain ⟨a, cap, h1, h2, h3, h4⟩ := h
  have hj := (List.getElem?_eq_some_iff.1 hx).1
  have hne : xs ≠ [] := fun e => by subst e; simp at hj
  obtain ⟨g, o, L, rfl, hS, hg, hr, hL, hc, hp⟩ := h4.resolve_left hne
  have hLj : L[j]? = some (L[j]'(by omega)) := List.getElem?_eq_getElem _
  have hfg := flat_get L j _ hc hLj
  have hck := hc _ (List.getElem_mem (by omega : j < L.length))
  refine ⟨g, o, cap, L[j]'(by omega), h1, hS, hg, ?_, hck, hp j x _ hx hLj⟩
  intro i u hi
  have hik : i < k := by rw [← hck]; exact (List.getElem?_eq_some_iff.1 hi).1
  rw [← hfg, List.getElem?_take, if_pos hik, List.getElem?_drop] at hi
  have := hr (j * k + i) u hi
  rwa [← Nat.add_assoc] at this
theorem Sl.fr {α : Type} {k : Nat} {p p' : α → List Value → Prop} {S D : Nat → Prop} {w w' : World} {v : Value} {xs : List α} (h : Sl k p S w v xs) (hf : Fr D w w') (hd : ∀ i, S i → i < w.heap.size → ¬ D i) (hp : ∀ x c, x ∈ xs → p x c → p' x c) : Sl k p' S w' v xs := by
  obtain ⟨a, cap, h1, h2, h3, h4⟩ := h
  refine ⟨a, cap, h1, h2, h3, h4.imp id ?_⟩
  rintro ⟨g, o, L, e, hS, hg, hr, hL, hc, hpp⟩
  exact ⟨g, o, L, e, hS, Nat.lt_of_lt_of_le hg hf.size, hf.range hr (hd g hS hg), hL, hc, fun j x c hx hcj => hp x c (List.mem_of_getElem? hx) (hpp j x c hx hcj)⟩

/-- A type and a value. -/
def AvC (x : Av) (cs : List Value) : Prop := cs = [.string (sb x.1), .string (sb x.2)] ∧ Sz x.1 ∧ Sz x.2
/-- A step that lies in blocks of S. -/
def RdIn (S : Nat → Prop) (w : World) (v : Value) (r : Rd) : Prop := Sl 2 AvC S w v r
def RdC (S : Nat → Prop) (w : World) (r : Rd) (cs : List Value) : Prop := ∃ v, cs = [v] ∧ RdIn S w v r
/-- A name that lies in blocks of S. -/
def NmIn (S : Nat → Prop) (w : World) (v : Value) (n : Nm) : Prop := Sl 1 (RdC S w) S w v n
theorem RdIn.fr {S D : Nat → Prop} {w w' : World} {v : Value} {r : Rd} (h : RdIn S w v r) (hf : Fr D w w') (hd : ∀ i, S i → i < w.heap.size → ¬ D i) : RdIn S w' v r := Sl.fr h hf hd fun _ _ _ h => h
theorem RdC.fr {S D : Nat → Prop} {w w' : World} {cs : List Value} {r : Rd} (h : RdC S w r cs) (hf : Fr D w w') (hd : ∀ i, S i → i < w.heap.size → ¬ D i) : RdC S w' r cs := by
  obtain ⟨v, h1, h2⟩ := h
  exact ⟨v, h1, h2.fr hf hd⟩
theorem NmIn.fr {S D : Nat → Prop} {w w' : World} {v : Value} {n : Nm} (h : NmIn S w v n) (hf : Fr D w w') (hd : ∀ i, S i → i < w.heap.size → ¬ D i) : NmIn S w' v n := Sl.fr h hf hd fun _ _ _ h => h.fr hf hd
theorem RdIn.no {S : Nat → Prop} {w w' : World} {v : Value} {r : Rd} (h : RdIn S w v r) (hf : Fr No w w') : RdIn S w' v r := h.fr hf fun _ _ _ e => e
theorem NmIn.no {S : Nat → Prop} {w w' : World} {v : Value} {n : Nm} (h : NmIn S w v n) (hf : Fr No w w') : NmIn S w' v n := h.fr hf fun _ _ _ e => e
theorem RdIn.mono {S S' : Nat → Prop} {w : World} {v : Value} {r : Rd} (h : RdIn S w v r) (hs : ∀ i, S i → S' i) : RdIn S' w v r := by
  obtain ⟨a, cap, h1, h2, h3, h4⟩ := h
  exact ⟨a, cap, h1, h2, h3, h4.imp id fun ⟨g, o, L, e, hS, r⟩ => ⟨g, o, L, e, hs g hS, r⟩⟩
theorem NmIn.mono {S S' : Nat → Prop} {w : World} {v : Value} {n : Nm} (h : NmIn S w v n) (hs : ∀ i, S i → S' i) : NmIn S' w v n := by
  obtain ⟨a, cap, h1, h2, h3, h4⟩ := h
  exact ⟨a, cap, h1, h2, h3, h4.imp id fun ⟨g, o, L, e, hS, h5, h6, h7, h8, h9⟩ => ⟨g, o, L, e, hs g hS, h5, h6, h7, h8, fun j x c hx hc => by
    obtain ⟨v, k1, k2⟩ := h9 j x c hx hc
    exact ⟨v, k1, k2.mono hs⟩⟩⟩
theorem rd_nil (S : Nat → Prop) (w : World) (a : Option Addr) (c : Nat) : RdIn S w (.slice a 0 c) [] := ⟨a, c, rfl, Nat.zero_le _, by show (0 : Nat) ≤ _; omega, .inl rfl⟩
theorem nm_nil (S : Nat → Prop) (w : World) (a : Option Addr) (c : Nat) : NmIn S w (.slice a 0 c) [] := ⟨a, c, rfl, Nat.zero_le _, by show (0 : Nat) ≤ _; omega, .inl rfl⟩
/-- A name without its first steps. -/
theorem Sl.drop {α : Type} {k : Nat} {p : α → List Value → Prop} {S : Nat → Prop} {w : World} {g o len cap : Nat} {xs : List α} (h : Sl k p S w (.slice (some ⟨g, o, none⟩) len cap) xs) (i : Nat) (hi : i ≤ len) : Sl k p S w (.slice (some ⟨g, o + i * k, none⟩) (len - i) (cap - i)) (xs.drop i) := by
  obtain ⟨a, c, h1, h2, h3, h4⟩ := h
  simp only [Value.slice.injEq] at h1
  obtain ⟨rfl, rfl, rfl⟩ := h1
  refine ⟨_, _, by rw [List.length_drop], by rw [List.length_drop]; omega, by rw [List.length_drop]; omega, ?_⟩
  by_cases hd : xs.drop i = []
  · exact .inl hd
  · right
    have hne : xs ≠ [] := fun e => hd (by rw [e]; simp)
    obtain ⟨g', o', L, e, hS, hg, hr, hL, hc, hp⟩ := h4.resolve_left hne
    simp only [Option.some.injEq, Addr.mk.injEq, and_true] at e
    obtain ⟨rfl, rfl⟩ := e
    have hsplit : L.flatten = (L.take i).flatten ++ (L.drop i).flatten := by rw [← List.flatten_append, List.take_append_drop]
    have hlen : (L.take i).flatten.length = i * k := by
      rw [flat_length (m := k) _ (fun l hl => hc l (List.mem_of_mem_take hl)), List.length_take, Nat.min_eq_left (by omega)]
    refine ⟨g, o + i * k, L.drop i, rfl, hS, hg, ?_, by rw [List.length_drop, List.length_drop, hL], fun c hcm => hc c (List.mem_of_mem_drop hcm), fun j x c hx hcj => hp (i + j) x c (by rw [← List.getElem?_drop]; exact hx) (by rw [← List.getElem?_drop]; exact hcj)⟩
    intro j u hj
    have := hr (i * k + j) u (by rw [hsplit, List.getElem?_append_right (by omega), hlen, Nat.add_sub_cancel_left]; exact hj)
    rwa [← Nat.add_assoc] at this
/-- No list and no text in it is longer. -/
def AvB (k : Nat) (x : Av) : Prop := x.1.length ≤ k ∧ x.2.length ≤ k
def RdB (k : Nat) (r : Rd) : Prop := r.length ≤ k ∧ ∀ x ∈ r, AvB k x
def NmB (k : Nat) (n : Nm) : Prop := n.length ≤ k ∧ ∀ r ∈ n, RdB k r
theorem NmB.le {k m : Nat} {n : Nm} (h : NmB k n) (hk : k ≤ m) : NmB m n :=
  ⟨Nat.le_trans h.1 hk, fun r hr => ⟨Nat.le_trans (h.2 r hr).1 hk, fun x hx => ⟨Nat.le_trans ((h.2 r hr).2 x hx).1 hk, Nat.le_trans ((h.2 r hr).2 x hx).2 hk⟩⟩⟩
theorem infoAv : (Tryz.prog.info? 35).map (·.size) = some 2 := by kernel_rfl
theorem infoRd : (Tryz.prog.info? 31).map (·.size) = some 1 := by kernel_rfl
theorem infoNm : (Tryz.prog.info? 24).map (·.size) = some 1 := by kernel_rfl
end Go.Proofs.YthjmkfpdbbfcpaaGreatDoor.DN
