/-
  Part 0 of the proof: Kit, Open, Bytes, Bulk.
-/
import Derived.WalkKit
import Derived.ProofKit
import Derived.Below
import Derived.Deep.MidRow
import Derived.Laws.LoneSync
import Derived.OwnWalk
import Derived.Deep.QuietTactic
import Derived.BigQuiet
import Derived.Deep.RegionHeld3
import Derived.Deep.RegionLaw
import Derived.StillTailTactics
import Derived.Great.BuildSlice
import Derived.Deep.AppendLies
import Derived.SizedLaws
import Derived.ChangeOld
import Derived.Carry
import Derived.OpenShut
import Derived.Test.YtnjemnmhkhkpeaaDoorRows
set_option linter.unusedSimpArgs false
set_option linter.unusedVariables false
namespace Go.Proofs.YtnjemnmhkhkpeaaDoor.K
set_option maxRecDepth 100000
open Go.RowKit
/-- A fact kept from the walk. -/
theorem hid {p : Prop} (h : p) : Hid p := h

/-! ### Which blocks may have turned -/
/-- All blocks that were there, but those in D, are as they were. -/
structure Fr (D : Nat → Prop) (w w' : World) : Prop where
  os : w'.os = w.os
  tape : w'.tape = w.tape
  output : w'.output = w.output
  size : w.heap.size ≤ w'.heap.size
  block : ∀ k, k < w.heap.size → ¬ D k → w'.heap[k]? = w.heap[k]?

/-- No block. -/
def No : Nat → Prop := fun _ => False
/-- What was in D, or is new. -/
def Grows (w : World) (D D' : Nat → Prop) : Prop := ∀ k, D' k → D k ∨ w.heap.size ≤ k

theorem Fr.refl (D : Nat → Prop) (w : World) : Fr D w w := ⟨rfl, rfl, rfl, Nat.le_refl _, fun _ _ _ => rfl⟩
theorem Fr.trans {D D' : Nat → Prop} {a b c : World} (h : Fr D a b) (k : Fr D' b c) (hd : Grows a D D') : Fr D a c :=
  ⟨k.os.trans h.os, k.tape.trans h.tape, k.output.trans h.output, Nat.le_trans h.size k.size, fun i hi hn =>
    (k.block i (Nat.lt_of_lt_of_le hi h.size) (fun e => (hd i e).elim hn (fun g => by omega))).trans (h.block i hi hn)⟩
theorem Fr.mono {D D' : Nat → Prop} {a b : World} (h : Fr D a b) (hd : ∀ k, D k → D' k) : Fr D' a b :=
  ⟨h.os, h.tape, h.output, h.size, fun i hi hn => h.block i hi (fun e => hn (hd i e))⟩
theorem Fr.no {D : Nat → Prop} {a b : World} (h : Fr No a b) : Fr D a b := h.mono fun _ e => e.elim
theorem Fr.trans' {D : Nat → Prop} {a b c : World} (h : Fr D a b) (k : Fr D b c) : Fr D a c := h.trans k fun _ e => .inl e
theorem Fr.drew {D : Nat → Prop} {a w : World} (h : Fr D a w) : Fr D a w.drew := ⟨h.os, h.tape, h.output, h.size, h.block⟩
theorem Fr.drewN {D : Nat → Prop} {a w : World} (h : Fr D a w) (n : Nat) : Fr D a (w.drewN n) := ⟨h.os, h.tape, h.output, h.size, h.block⟩
theorem Fr.alloc {D : Nat → Prop} {a w : World} (h : Fr D a w) (o : Obj) : Fr D a (w.alloc o) :=
  h.trans (D' := No) ⟨rfl, rfl, rfl, by simp, fun k hk _ => Below.heap_alloc _ _ _ hk⟩ (fun _ e => e.elim)
theorem Fr.setCell {D : Nat → Prop} {a w : World} (h : Fr D a w) (p : Addr) (u : Value) (hp : D p.block ∨ a.heap.size ≤ p.block) : Fr D a (w.setCell p u) :=
  h.trans (D' := fun k => k = p.block) ⟨rfl, rfl, rfl, by simp, fun k _ hn => Below.heap_setCell _ _ _ _ hn⟩ (fun k e => by subst e; exact hp)
theorem heap_setCells (b : Nat) : ∀ (vs : List Value) (o : Nat) (w : World) (k : Nat), k ≠ b → (w.setCells b o vs).heap[k]? = w.heap[k]?
  | [], _, _, _, _ => rfl
  | v :: r, o, w, k, h => by rw [World.setCells, heap_setCells b r (o + 1) _ k h, Below.heap_setCell _ _ _ _ h]
theorem setCells_same (b : Nat) : ∀ (vs : List Value) (o : Nat) (w : World), (w.setCells b o vs).os = w.os ∧ (w.setCells b o vs).tape = w.tape ∧ (w.setCells b o vs).output = w.output ∧ (w.setCells b o vs).heap.size = w.heap.size
  | [], _, _ => ⟨rfl, rfl, rfl, rfl⟩
  | v :: r, o, w => by
    obtain ⟨h1, h2, h3, h4⟩ := setCells_same b r (o + 1) (w.setCell ⟨b, o, none⟩ v)
    exact ⟨h1, h2, h3, h4.trans (by simp)⟩
@[simp] theorem size_setCells (b o : Nat) (vs : List Value) (w : World) : (w.setCells b o vs).heap.size = w.heap.size := (setCells_same b vs o w).2.2.2
theorem Fr.setCells {D : Nat → Prop} {a w : World} (h : Fr D a w) (b o : Nat) (vs : List Value) (hp : D b ∨ a.heap.size ≤ b) : Fr D a (w.setCells b o vs) :=
  h.trans (D' := fun k => k = b)
    ⟨(setCells_same b vs o w).1, (setCells_same b vs o w).2.1, (setCells_same b vs o w).2.2.1, by simp, fun k _ hn => heap_setCells _ _ _ _ _ hn⟩ (fun k e => by subst e; exact hp)
theorem Fr.grown {D : Nat → Prop} {a w w' : World} {row : Option Nat} (h : Fr D a w) (hg : w.grownBy w' row) (hp : ∀ k, row = some k → D k ∨ a.heap.size ≤ k) : Fr D a w' :=
  h.trans (D' := fun k => row = some k) ⟨hg.os, hg.tape, hg.output, hg.size, fun k hk hn => hg.block k hk (fun e => hn e.symm)⟩ hp
theorem Fr.below {D : Nat → Prop} {w w' : World} {B : Nat} (h : Fr D w w') (hd : ∀ k, D k → B ≤ k) (hB : B ≤ w.heap.size) : Below B w w' :=
  ⟨h.os, h.tape, h.output, h.size, fun k hk => h.block k (by omega) (fun e => by have := hd k e; omega)⟩
theorem Fr.cell {D : Nat → Prop} {w w' : World} (h : Fr D w w') {p : Addr} {v : Value} (hc : w.cell? p = some v) (hn : ¬ D p.block) : w'.cell? p = some v :=
  (World.cell?_of_block (h.block p.block (World.block_lt_of_cell? w p hc) hn)).trans hc
theorem Fr.range {D : Nat → Prop} {w w' : World} (h : Fr D w w') {b o : Nat} {cs : List Value} (hc : w.rangeAt b o cs) (hn : ¬ D b) : w'.rangeAt b o cs :=
  fun j v hj => h.cell (hc j v hj) hn
theorem Grows.refl (w : World) (D : Nat → Prop) : Grows w D D := fun _ e => .inl e
theorem Grows.trans {a b : World} {D D' D'' : Nat → Prop} (h : Grows a D D') (k : Grows b D' D'') (hs : a.heap.size ≤ b.heap.size) : Grows a D D'' :=
  fun i e => (k i e).elim (fun e' => h i e') (fun e' => .inr (Nat.le_trans hs e'))
theorem Grows.later {a b : World} {D D' : Nat → Prop} (h : Grows b D D') (hs : a.heap.size ≤ b.heap.size) : Grows a D D' := (Grows.refl a D).trans h hs
/-- What is apart from D and was there is apart from what D grows to. -/
theorem Grows.apart {w : World} {D D' : Nat → Prop} (h : Grows w D D') {k : Nat} (hk : ¬ D k) (hl : k < w.heap.size) : ¬ D' k := fun e => (h k e).elim hk (fun g => by omega)

/-! ### One whole block -/
/-- Block b holds the cells cs, of elements of type t; nothing of it is frozen. -/
def Blk (w : World) (b : Nat) (t : TypeId) (cs : List Value) : Prop := w.heap[b]? = some (.cells cs.toArray t (0, 0))

theorem Blk.lt {w : World} {b : Nat} {t : TypeId} {cs : List Value} (h : Blk w b t cs) : b < w.heap.size := (Array.getElem?_eq_some_iff.1 h).1
theorem Blk.cell {w : World} {b : Nat} {t : TypeId} {cs : List Value} (h : Blk w b t cs) (j : Nat) : w.cell? ⟨b, j, none⟩ = cs[j]? := by
  rw [cell_of_row w b j cs.toArray t (0, 0) h]; simp
theorem Blk.frozen {w : World} {b : Nat} {t : TypeId} {cs : List Value} (h : Blk w b t cs) (j : Nat) : w.frozen? ⟨b, j, none⟩ = false := frozen_of_row w b j _ t h
theorem Blk.new (w : World) (t : TypeId) (cs : List Value) : Blk (w.alloc (.cells cs.toArray t)) w.heap.size t cs := heap_alloc_new w _
theorem Blk.alloc {w : World} {b : Nat} {t : TypeId} {cs : List Value} (h : Blk w b t cs) (o : Obj) : Blk (w.alloc o) b t cs := (Below.heap_alloc _ _ _ h.lt).trans h
theorem Blk.drew {w : World} {b : Nat} {t : TypeId} {cs : List Value} (h : Blk w b t cs) : Blk w.drew b t cs := h
theorem Blk.set {w : World} {b : Nat} {t : TypeId} {cs : List Value} (h : Blk w b t cs) (j : Nat) (v : Value) : Blk (w.setCell ⟨b, j, none⟩ v) b t (cs.set j v) := by
  have := heap_setCell_same w b j cs.toArray t v h
  simpa [Blk] using this
theorem Blk.set_other {w : World} {b : Nat} {t : TypeId} {cs : List Value} (h : Blk w b t cs) (p : Addr) (v : Value) (hn : b ≠ p.block) : Blk (w.setCell p v) b t cs :=
  (Below.heap_setCell _ _ _ _ hn).trans h
theorem Blk.fr {D : Nat → Prop} {w w' : World} {b : Nat} {t : TypeId} {cs : List Value} (h : Blk w b t cs) (hf : Fr D w w') (hn : ¬ D b) : Blk w' b t cs := (hf.block b h.lt hn).trans h
/-- cs, but from place o on vs. -/
def spl (cs : List Value) (o : Nat) (vs : List Value) : List Value := cs.take o ++ vs ++ cs.drop (o + vs.length)
theorem spl_nil (cs : List Value) (o : Nat) : spl cs o [] = cs := by simp [spl]
theorem spl_cons (cs : List Value) (o : Nat) (v : Value) (r : List Value) (h : o < cs.length) : spl (cs.set o v) (o + 1) r = spl cs o (v :: r) := by
  unfold spl
  have e1 : (cs.set o v).take (o + 1) = cs.take o ++ [v] := by
    rw [List.take_set, List.take_succ_eq_append_getElem h, List.set_append_right _ _ (by simp; omega)]
    simp [List.length_take, Nat.min_eq_left (Nat.le_of_lt h)]
  have e2 : (cs.set o v).drop (o + 1 + r.length) = cs.drop (o + (v :: r).length) := by
    rw [List.drop_set_of_lt (by omega)]
    congr 1
    simp; omega
  rw [e1, e2]
  simp
theorem spl_length (cs : List Value) (o : Nat) (vs : List Value) (h : o + vs.length ≤ cs.length) : (spl cs o vs).length = cs.length := by
  simp [spl]; omega
theorem Blk.sets {b : Nat} {t : TypeId} : ∀ (vs : List Value) (o : Nat) {w : World} {cs : List Value}, Blk w b t cs → o + vs.length ≤ cs.length → Blk (w.setCells b o vs) b t (spl cs o vs)
  | [], o, w, cs, h, _ => by rw [spl_nil]; exact h
  | v :: r, o, w, cs, h, hl => by
    have := Blk.sets r (o + 1) (h.set o v) (by simp at hl ⊢; omega)
    rw [spl_cons _ _ _ _ (by simp at hl; omega)] at this
    exact this
theorem Blk.sets_other {w : World} {b : Nat} {t : TypeId} {cs : List Value} (h : Blk w b t cs) (b' o : Nat) (vs : List Value) (hn : b ≠ b') : Blk (w.setCells b' o vs) b t cs :=
  (heap_setCells _ _ _ _ _ hn).trans h
theorem Blk.range {w : World} {b : Nat} {t : TypeId} {cs : List Value} (h : Blk w b t cs) (o : Nat) (vs : List Value) (hv : (cs.drop o).take vs.length = vs) : w.rangeAt b o vs := by
  intro j v hj
  rw [h.cell, ← hj, ← hv]
  have hl : j < vs.length := (List.getElem?_eq_some_iff.1 hj).1
  rw [List.getElem?_take, if_pos hl, List.getElem?_drop]
theorem Blk.there {w : World} {b : Nat} {t : TypeId} {cs : List Value} (h : Blk w b t cs) (o n : Nat) (hl : o + n ≤ cs.length) : w.there b o n := by
  intro j hj
  rw [h.cell, h.frozen]
  simp
  omega
/-- A row that the call owns is a block. -/
theorem Blk.own {w : World} {b : Nat} {t : TypeId} {cs : List Value} {base size n cap : Nat} {xs : List Value} (h : Blk w b t cs) (hb : base ≤ b) (hx : xs.length = n * size) (hn : n ≤ cap) (hc : cap ≤ maxLen)
    (hs : cs.length = cap * size) (ht : cs.take (n * size) = xs) : w.ownsRow base t size (.slice (some ⟨b, 0, none⟩) n cap) n xs :=
  ⟨hx, .inr ⟨b, cap, cs.toArray, rfl, hb, h, hn, hc, by simpa using hs, by simpa using ht⟩⟩

theorem Blk.grown {w w' : World} {b : Nat} {t : TypeId} {cs : List Value} {row : Option Nat} (h : Blk w b t cs) (hg : w.grownBy w' row) (hn : some b ≠ row) : Blk w' b t cs := (hg.block b h.lt hn).trans h
theorem Blk.news {w : World} {b : Nat} {t : TypeId} {cs : List Value} (h : Blk w b t cs) : ∀ j u, cs[j]? = some u → w.cell? ((⟨b, 0, none⟩ : Addr).add j) = some u := fun j u hj => by
  rw [Addr.add_mid, Nat.zero_add, h.cell]; exact hj
theorem own_fr {D : Nat → Prop} {w w' : World} {base : Nat} {e : TypeId} {size : Nat} {v : Value} {n : Nat} {xs : List Value} (h : w.ownsRow base e size v n xs) (hf : Fr D w w') (hn : ∀ k, v.ownBlock = some k → ¬ D k) : w'.ownsRow base e size v n xs := by
  refine ⟨h.1, ?_⟩
  rcases h.2 with h0 | ⟨g, cap, cur, rfl, hb, hg, r⟩
  · exact .inl h0
  · exact .inr ⟨g, cap, cur, rfl, hb, (hf.block g (Array.getElem?_eq_some_iff.1 hg).1 (hn g rfl)).trans hg, r⟩

theorem own_form {w : World} {base : Nat} {e : TypeId} {size : Nat} {v : Value} {n : Nat} {xs : List Value} (h : w.ownsRow base e size v n xs) :
    ∃ a cap, v = .slice a n cap ∧ n ≤ 9223372036854775807 ∧ (0 < n → ∃ g, a = some ⟨g, 0, none⟩) := by
  rcases h.2 with ⟨rfl, rfl⟩ | ⟨g, cap, cur, rfl, _, _, h1, h2, _⟩
  · exact ⟨none, 0, rfl, by decide, fun h => by omega⟩
  · exact ⟨_, cap, rfl, by have := Nat.le_trans h1 h2; unfold maxLen at this; omega, fun _ => ⟨g, rfl⟩⟩

/-- One cell of an owned row is set. -/
theorem own_put {w : World} {base : Nat} {e : TypeId} {g n cap : Nat} {xs : List Value} (h : w.ownsRow base e 1 (.slice (some ⟨g, 0, none⟩) n cap) n xs) (k : Nat) (v : Value) : (w.setCell ⟨g, k, none⟩ v).ownsRow base e 1 (.slice (some ⟨g, 0, none⟩) n cap) n (xs.set k v) := by
  refine ⟨by simpa using h.1, .inr ?_⟩
  rcases h.2 with ⟨h0, _⟩ | ⟨g', cap', cur, hv, hb, hg, h1, h2, h3, h4⟩
  · cases h0
  · simp only [Value.slice.injEq, Option.some.injEq, Addr.mk.injEq] at hv
    obtain ⟨⟨rfl, _⟩, _, rfl⟩ := hv
    refine ⟨g, cap, cur.setIfInBounds k v, rfl, hb, heap_setCell_same w g k cur e v hg, h1, h2, by simpa using h3, ?_⟩
    rw [Array.toList_setIfInBounds, List.take_set, h4]
theorem own_at {w : World} {base : Nat} {e : TypeId} {g n cap : Nat} {xs : List Value} (h : w.ownsRow base e 1 (.slice (some ⟨g, 0, none⟩) n cap) n xs) (k : Nat) (v : Value) (hk : xs[k]? = some v) : w.cell? ⟨g, k, none⟩ = some v ∧ w.frozen? ⟨g, k, none⟩ = false := by
  refine ⟨by have := h.cells (g := g) rfl k v hk; rwa [Addr.add_mid, Nat.zero_add] at this, ?_⟩
  rcases h.2 with ⟨h0, _⟩ | ⟨g', cap', cur, hv, hb, hg, _⟩
  · cases h0
  · simp only [Value.slice.injEq, Option.some.injEq, Addr.mk.injEq] at hv
    obtain ⟨⟨rfl, _⟩, _, rfl⟩ := hv
    exact frozen_of_row w g k cur e hg

/-! ### Operations, in these words -/
section
variable {P : Program} {ops : Array Oper} {rest : List Oper} {op : Oper} {a : Act} {w : World} {Q : Exit → Act → World → Prop}
/-- 'copy' into cells that are there, from cells that read so. -/
theorem wpL_copy (hgd : op.guard = none) (d s : Operand) (dT sT : TypeId) (ho : op.op = .call { callee := .builtin .copy, args := #[d, s], argTypes := #[dT, sT] })
    (elem : TypeId) (hu : P.underlying dT = some (.slice elem)) (hsz : (P.info? elem).map (·.size) = some 1)
    (g off dLen dCap : Nat) (sp : Option Addr) (sLen sCap : Nat) (hd : a.eval d = .slice (some ⟨g, off, none⟩) dLen dCap) (hs : a.eval s = .slice sp sLen sCap)
    (cs : List Value) (hn : cs.length = Nat.min sLen dLen) (hsrc : cs.length = 0 ∨ ∃ ad, sp = some ad ∧ ∀ j v, cs[j]? = some v → w.cell? (ad.add j) = some v)
    (ht : w.there g off cs.length) (h1 : ∀ v ∈ cs, v.oneCell' = true)
    (h : wpList P ops Q rest (a.put op.dst (goInt cs.length)) (w.setCells g off cs)) : wpList P ops Q (op :: rest) a w := by
  refine wpList_plain hgd fun K hK => ?_
  unfold Oper.wp
  by_cases h0 : cs.length = 0
  · obtain rfl : cs = [] := List.eq_nil_of_length_eq_zero h0
    have hrun := run_copy_none (P := P) w dT sT op.type elem (some ⟨g, off, none⟩) sp dLen dCap sLen sCap hu hsz (by simpa using hn.symm)
    simp [execOp, ho, resolve, invoke, builtin, hd, hs, hrun, Result.andThen]
    exact hK _ _ h
  · obtain ⟨ad, rfl, hsrc'⟩ := hsrc.resolve_left h0
    have hrun := run_copy_cells (P := P) w dT sT op.type elem g off dLen dCap ad sLen sCap cs hu hsz hn hsrc' (fun j hj => (ht j hj).1) (fun j hj => (ht j hj).2) h1
    simp [execOp, ho, resolve, invoke, builtin, hd, hs, hrun, Result.andThen]
    exact hK _ _ h
/-- A new variable: the world behind it is an unknown one of which the block and all that was there are known. -/
theorem wpL_alloc (hgd : op.guard = none) (t : TypeId) (ho : op.op = .alloc t) (z : Value) (hz : ∀ w, (zeroValue t).run P w = .ok z w) (zs : List Value) (hzs : z.cells = zs.toArray)
    (h : ∀ w', Hid (Blk w' w.heap.size t zs) → Hid (Fr No w w') → Hid (w'.heap.size = w.heap.size + 1) → wpList P ops Q rest (a.put op.dst (.pointer (some ⟨w.heap.size, 0, none⟩))) w') : wpList P ops Q (op :: rest) a w := by
  refine wpList_plain hgd fun K hK => ?_
  unfold Oper.wp
  have h1 := h (w.alloc (.cells z.cells t)) (hid (by rw [hzs]; exact Blk.new w t zs)) (hid ((Fr.refl _ _).alloc _)) (hid (by simp))
  simp [execOp, ho, Instr.alloc, hz, newVar, newRow, Result.andThen]
  exact hK _ _ h1
/-- 'copy' into a block that is known. -/
theorem wpL_copyB (hgd : op.guard = none) (d s : Operand) (dT sT : TypeId) (ho : op.op = .call { callee := .builtin .copy, args := #[d, s], argTypes := #[dT, sT] })
    (elem : TypeId) (hu : P.underlying dT = some (.slice elem)) (hsz : (P.info? elem).map (·.size) = some 1)
    (g off dLen dCap : Nat) (sp : Option Addr) (sLen sCap : Nat) (hd : a.eval d = .slice (some ⟨g, off, none⟩) dLen dCap) (hs : a.eval s = .slice sp sLen sCap)
    (t : TypeId) (cur : List Value) (hB : Blk w g t cur) (cs : List Value) (hn : cs.length = Nat.min sLen dLen) (hsrc : cs.length = 0 ∨ ∃ ad, sp = some ad ∧ ∀ j v, cs[j]? = some v → w.cell? (ad.add j) = some v)
    (hle : off + cs.length ≤ cur.length) (h1 : ∀ v ∈ cs, v.oneCell' = true)
    (h : ∀ w', Hid (Blk w' g t (spl cur off cs)) → Hid (Fr (fun k => k = g) w w') → Hid (w'.heap.size = w.heap.size) → wpList P ops Q rest (a.put op.dst (goInt cs.length)) w') : wpList P ops Q (op :: rest) a w :=
  wpL_copy hgd d s dT sT ho elem hu hsz g off dLen dCap sp sLen sCap hd hs cs hn hsrc (hB.there off cs.length hle) h1
    (h _ (hid (hB.sets cs off hle)) (hid ((Fr.refl (fun k => k = g) w).setCells g off cs (.inl rfl))) (hid (by simp)))
theorem made_one (z : Array Value) (v : Value) (n m : Nat) (hz : z = (List.replicate m v).toArray) (hm : 0 < m) : madeCells z n = (List.replicate n v).toArray := by
  subst hz
  apply Array.ext
  · simp [madeCells]
  · intro i h1 h2
    have : i % m < m := Nat.mod_lt _ hm
    simp [madeCells, this]
/-- 'make([]T, n)', all cells of T's zero value alike. -/
theorem wpL_make (hgd : op.guard = none) (l c : Operand) (t : TypeId) (ho : op.op = .makeSlice t l c) (e : TypeId) (i : TypeInfo) (z v : Value) (m : Nat) (hu : P.underlying t = some (.slice e)) (hi : P.info? e = some i)
    (hz : i.zero = some z) (hzm : z.cells = (List.replicate m v).toArray) (hm : 0 < m) (hs : i.size = m) (kl kc : IntKind) (n : Nat) (hl : a.eval l = .int kl n) (hc : a.eval c = .int kc n) (b2 : i.bytes * n ≤ 281474976710656) (b3 : n ≤ maxLen)
    (h : ∀ w', Hid (Blk w' w.heap.size e (List.replicate (n * m) v)) → Hid (Fr No w w') → Hid (w'.heap.size = w.heap.size + 1) → wpList P ops Q rest (a.put op.dst (.slice (some ⟨w.heap.size, 0, none⟩) n n)) w') : wpList P ops Q (op :: rest) a w := by
  refine wpList_plain hgd fun K hK => ?_
  have hrun := run_make (P := P) w t e i z hu hi hz kl kc n n (by omega) (Int.le_refl _) (by omega) (by unfold maxLen at b3; omega)
  rw [made_one z.cells v _ m hzm hm, hs] at hrun
  unfold Oper.wp
  simp [execOp, ho, hl, hc, hrun, Result.andThen]
  exact hK _ _ (h _ (hid (by simpa using Blk.new w e (List.replicate (n * m) v))) (hid ((Fr.refl _ _).alloc _)) (hid (by simp)))
/-- 'append(v, x...)', v owned, x whatever slice. -/
theorem run_append_any (t ty : TypeId) (base : Nat) (e : TypeId) (i : TypeInfo) (z : Value) (size bytes : Nat) (ht : P.underlying t = some (.slice e)) (hi : P.info? e = some i) (hz : i.zero = some z)
    (hsize : i.size = size) (hby : i.bytes = bytes) (hzs : z.cells.size = size) (hsz : 0 < size) (v : Value) (n : Nat) (xs : List Value) (hown : w.ownsRow base e size v n xs)
    (sp : Option Addr) (m c : Nat) (news : List Value) (hl : news.length = m * size) (hsrc : m = 0 ∨ ∃ ad, sp = some ad ∧ ∀ j u, news[j]? = some u → w.cell? (ad.add j) = some u) (h1 : ∀ u ∈ news, u.oneCell' = true)
    (h63 : n + m ≤ maxLen) (hbytes : (n + m) * bytes ≤ 140737488355328) (hbase : base ≤ w.heap.size) :
    ∃ v' w', (Builtin.append_ #[t, t] ty #[v, .slice sp m c]).run P w = .ok v' w' ∧ w'.ownsRow base e size v' (n + m) (xs ++ news) ∧ w.grownBy w' v.ownBlock ∧ (v'.ownBlock = v.ownBlock ∨ v'.ownBlock = some w.heap.size) ∧ ∃ a cap, v' = .slice a (n + m) cap := by
  by_cases h0 : m = 0
  · subst h0
    obtain rfl : news = [] := List.eq_nil_of_length_eq_zero (by simpa using hl)
    have hf : ∀ x : Option Addr, (Builtin.firstCells i.size 0 (.slice x 0 c)).run P w = .ok #[] w := by
      intro x; cases x <;> simp [Builtin.firstCells, loadCells, loadCellsFrom]
    have hf' : (Builtin.firstCells i.size 0 (.slice sp 0 c)).run P w = .ok #[] w := hf sp
    refine ⟨v, w, ?_, by simpa using hown, ⟨rfl, rfl, rfl, Nat.le_refl _, fun _ _ _ => rfl⟩, .inl rfl, ?_⟩
    · rcases hown.2 with ⟨rfl, rfl⟩ | ⟨g, cap, cur, rfl, _, _, hnc, _⟩
      · simp [Builtin.append_, run_underlying ht, sizeOf, typeInfo, hi, Builtin.lenOf, hf', Result.andThen]
      · simp [Builtin.append_, run_underlying ht, sizeOf, typeInfo, hi, Builtin.lenOf, hf', Result.andThen, hnc, storeCells]
    · obtain ⟨a, cap, hv, _⟩ := own_form hown
      exact ⟨a, cap, hv⟩
  · obtain ⟨ad, rfl, hc⟩ := hsrc.resolve_left h0
    obtain ⟨g, cap, w', hr, h2, h3, h4, _⟩ := run_append_lies (P := P) w t ty base e i z size bytes ht hi hz hsize hby hzs hsz v n xs hown ad m c news hl hc h1 (by omega) h63 hbytes hbase _ rfl
    exact ⟨_, w', hr, h2, h3, h4.imp (fun h => by rw [h]; rfl) (fun h => by rw [h]; rfl), _, _, rfl⟩
theorem wpL_append (hgd : op.guard = none) (s x : Operand) (t : TypeId) (ho : op.op = .call { callee := .builtin .append, args := #[s, x], argTypes := #[t, t] })
    (base : Nat) (e : TypeId) (i : TypeInfo) (z : Value) (size bytes : Nat) (ht : P.underlying t = some (.slice e)) (hi : P.info? e = some i) (hz : i.zero = some z)
    (hsize : i.size = size) (hby : i.bytes = bytes) (hzs : z.cells.size = size) (hsz : 0 < size) (v : Value) (n : Nat) (xs : List Value) (hv : a.eval s = v) (hown : w.ownsRow base e size v n xs)
    (sp : Option Addr) (m c : Nat) (news : List Value) (hx : a.eval x = .slice sp m c) (hl : news.length = m * size) (hsrc : m = 0 ∨ ∃ ad, sp = some ad ∧ ∀ j u, news[j]? = some u → w.cell? (ad.add j) = some u) (h1 : ∀ u ∈ news, u.oneCell' = true)
    (h63 : n + m ≤ maxLen) (hbytes : (n + m) * bytes ≤ 140737488355328) (hbase : base ≤ w.heap.size)
    (h : ∀ a' cap' w', Hid (w'.ownsRow base e size (.slice a' (n + m) cap') (n + m) (xs ++ news)) → Hid (w.grownBy w' v.ownBlock) → Hid ((Value.slice a' (n + m) cap').ownBlock = v.ownBlock ∨ (Value.slice a' (n + m) cap').ownBlock = some w.heap.size) →
      wpList P ops Q rest (a.put op.dst (.slice a' (n + m) cap')) w') : wpList P ops Q (op :: rest) a w := by
  refine wpList_plain hgd fun K hK => ?_
  obtain ⟨v', w', hr, h2, h3, h4, a', cap', rfl⟩ := run_append_any (P := P) (w := w) t op.type base e i z size bytes ht hi hz hsize hby hzs hsz v n xs hown sp m c news hl hsrc h1 h63 hbytes hbase
  unfold Oper.wp execOp
  simp only [ho, resolve, invoke, builtin, Sem.run_bind, Sem.run_pure, Result.andThen_ok, List.map_toArray, List.map_cons, List.map_nil, hv, hx, hr]
  exact hK _ _ (h a' cap' w' h2 h3 h4)
/-- A slice literal, out of a closed fact. -/
theorem wpL_buildSlice (hgd : op.guard = none) (t e : TypeId) (n : Nat) (parts : List (Nat × Operand)) (ho : op.op = .buildSlice t n parts.toArray) (cs : List Value)
    (hrun : (Instr.buildSlice t n (parts.map fun x => (x.1, a.eval x.2)).toArray).run P w = .ok (.slice (some ⟨w.heap.size, 0, none⟩) n n) (w.alloc (.cells cs.toArray e)))
    (h : ∀ w', Hid (Blk w' w.heap.size e cs) → Hid (Fr No w w') → Hid (w'.heap.size = w.heap.size + 1) → wpList P ops Q rest (a.put op.dst (.slice (some ⟨w.heap.size, 0, none⟩) n n)) w') : wpList P ops Q (op :: rest) a w := by
  refine wpList_plain hgd fun K hK => ?_
  unfold Oper.wp
  have h1 := h (w.alloc (.cells cs.toArray e)) (hid (Blk.new w e cs)) (hid ((Fr.refl _ _).alloc _)) (hid (by simp))
  simp [execOp, ho, hrun, Result.andThen]
  exact hK _ _ h1
/-- The same onto a row that holds nothing yet. -/
theorem wpL_appendNew (hgd : op.guard = none) (s x : Operand) (t : TypeId) (ho : op.op = .call { callee := .builtin .append, args := #[s, x], argTypes := #[t, t] })
    (base : Nat) (e : TypeId) (i : TypeInfo) (z : Value) (size bytes : Nat) (ht : P.underlying t = some (.slice e)) (hi : P.info? e = some i) (hz : i.zero = some z)
    (hsize : i.size = size) (hby : i.bytes = bytes) (hzs : z.cells.size = size) (hsz : 0 < size) (v : Value) (hv : a.eval s = v) (hown : w.ownsRow base e size v 0 [])
    (sp : Option Addr) (m c : Nat) (news : List Value) (hx : a.eval x = .slice sp m c) (hl : news.length = m * size) (hsrc : m = 0 ∨ ∃ ad, sp = some ad ∧ ∀ j u, news[j]? = some u → w.cell? (ad.add j) = some u) (h1 : ∀ u ∈ news, u.oneCell' = true)
    (h63 : m ≤ maxLen) (hbytes : m * bytes ≤ 140737488355328) (hbase : base ≤ w.heap.size)
    (h : ∀ a' cap' w', Hid (w'.ownsRow base e size (.slice a' m cap') m news) → Hid (w.grownBy w' v.ownBlock) → Hid ((Value.slice a' m cap').ownBlock = v.ownBlock ∨ (Value.slice a' m cap').ownBlock = some w.heap.size) →
      wpList P ops Q rest (a.put op.dst (.slice a' m cap')) w') : wpList P ops Q (op :: rest) a w :=
  wpL_append hgd s x t ho base e i z size bytes ht hi hz hsize hby hzs hsz v 0 [] hv hown sp m c news hx hl hsrc h1 (by omega) (by simpa using hbytes) hbase
    (fun a' cap' w' h2 h3 h4 => by rw [Nat.zero_add] at h2 h4 ⊢; exact h a' cap' w' h2 h3 h4)
/-- An empty slice literal. -/
theorem wpL_buildNone (hgd : op.guard = none) (t e : TypeId) (ho : op.op = .buildSlice t 0 #[]) (hrun : ∀ w, (Instr.buildSlice t 0 #[]).run P w = .ok (.slice (some ⟨w.heap.size, 0, none⟩) 0 0) (w.alloc (.cells #[] e)))
    (h : ∀ w', Hid (Blk w' w.heap.size e []) → Hid (Fr No w w') → Hid (w'.heap.size = w.heap.size + 1) → wpList P ops Q rest (a.put op.dst (.slice (some ⟨w.heap.size, 0, none⟩) 0 0)) w') : wpList P ops Q (op :: rest) a w := by
  refine wpList_plain hgd fun K hK => ?_
  unfold Oper.wp
  have h1 := h (w.alloc (.cells #[] e)) (hid (Blk.new w e [])) (hid ((Fr.refl _ _).alloc _)) (hid (by simp))
  simp [execOp, ho, hrun, Result.andThen]
  exact hK _ _ h1
/-- A literal of a struct or an array, out of a closed fact. -/
theorem wpL_build (hgd : op.guard = none) (t : TypeId) (parts : List (Nat × Operand)) (ho : op.op = .build t parts.toArray) (v : Value)
    (hrun : (Instr.build t (parts.map fun x => (x.1, a.eval x.2)).toArray).run P w = .ok v w) (h : wpList P ops Q rest (a.put op.dst v) w) : wpList P ops Q (op :: rest) a w := by
  refine wpList_plain hgd fun K hK => ?_
  unfold Oper.wp
  simp [execOp, ho, hrun, Result.andThen]
  exact hK _ _ h
/-- A whole array or struct is read. -/
theorem wpL_load (hgd : op.guard = none) (ty : TypeId) (x : Operand) (ho : op.op = .load ty x) (b o : Nat) (hx : a.eval x = .pointer (some ⟨b, o, none⟩)) (cs : List Value) (d : TypeDesc) (hc : w.rangeAt b o cs)
    (hu : P.underlying ty = some d) (hd : d.isRow = true) (hi : (P.info? ty).map (·.size) = some cs.length) (h : wpList P ops Q rest (a.put op.dst (.agg cs.toArray)) w) : wpList P ops Q (op :: rest) a w :=
  wpList_load_mid hgd ty x ho b o hx cs d hc hu hd hi h
/-- A whole array or struct is stored into a block that is known. -/
theorem wpL_store (hgd : op.guard = none) (ty : TypeId) (x y : Operand) (ho : op.op = .store ty x y) (b o : Nat) (vs : List Value) (hx : a.eval x = .pointer (some ⟨b, o, none⟩)) (hy : a.eval y = .agg vs.toArray)
    (t : TypeId) (cs : List Value) (hB : Blk w b t cs) (hle : o + vs.length ≤ cs.length) (hi : (P.info? ty).map (·.size) = some vs.length) (h1 : ∀ v ∈ vs, v.oneCell' = true)
    (h : ∀ w', Hid (Blk w' b t (spl cs o vs)) → Hid (Fr (fun k => k = b) w w') → Hid (w'.heap.size = w.heap.size) → wpList P ops Q rest (a.put op.dst undef) w') : wpList P ops Q (op :: rest) a w :=
  wpList_plain hgd fun _ hK => wp_store_mid ty x y ho b o vs.toArray hx hy (by simpa using hB.there o vs.length hle) (by simpa using hi) (by simpa using h1)
    (hK _ _ (h _ (hid (by simpa using hB.sets vs o hle)) (hid (by simpa using (Fr.refl (fun k => k = b) w).setCells b o vs.toArray.toList (.inl rfl))) (hid (by simp))))
/-- A variable of a given value. -/
theorem wpL_box (hgd : op.guard = none) (t : TypeId) (x : Operand) (ho : op.op = .box t x) (v : Value) (hv : a.eval x = v) (cs : List Value) (hcs : v.cells = cs.toArray)
    (h : ∀ w', Hid (Blk w' w.heap.size t cs) → Hid (Fr No w w') → Hid (w'.heap.size = w.heap.size + 1) → wpList P ops Q rest (a.put op.dst (.pointer (some ⟨w.heap.size, 0, none⟩))) w') : wpList P ops Q (op :: rest) a w := by
  refine wpList_plain hgd fun K hK => ?_
  unfold Oper.wp
  have h1 := h (w.alloc (.cells v.cells t)) (hid (by rw [hcs]; exact Blk.new w t cs)) (hid ((Fr.refl _ _).alloc _)) (hid (by simp))
  simp [execOp, ho, Instr.box, hv, newVar, newRow, Result.andThen]
  exact hK _ _ h1
end
/-- The result that lies in memory. -/
theorem ret_cell {P : Program} {fn : Func} {R : Ending → World → Prop} {a : Act} {w : World} {p : Tmp} {ty : TypeId} {b : Nat} {t : TypeId} {cs : List Value} (hr : fn.results = #[.cell p ty]) (d : TypeDesc) (hp : a.tmps.getD p undef = .pointer (some ⟨b, 0, none⟩)) (hB : Blk w b t cs)
    (hu : P.underlying ty = some d) (hd : (match d with | .struct _ | .array _ _ => true | _ => false) = true) (hi : (P.info? ty).map (·.size) = some cs.length) (hdf : a.defers = []) (h : R (.returned (.agg cs.toArray)) w) : bodyPost P fn R .ret a w :=
  bodyPost_ret (results_cell_row hr a.tmps w b t cs.toArray (0, 0) d hp hB hu hd (by simpa using hi)) hdf h
theorem range_loads {w : World} {b o : Nat} {cs : List Value} (h : w.rangeAt b o cs) : ∀ j v, cs[j]? = some v → w.cell? ((⟨b, o, none⟩ : Addr).add j) = some v := fun j v hj => by
  rw [Addr.add_mid]; exact h j v hj

/-! ### Rows of rows: lists of one length, one behind the other -/
theorem flat_length {m : Nat} : ∀ (L : List (List Value)), (∀ l ∈ L, l.length = m) → L.flatten.length = L.length * m
  | [], _ => by simp
  | a :: r, h => by
    rw [List.flatten_cons, List.length_append, flat_length r (fun l hl => h l (by simp [hl])), h a (by simp), List.length_cons, Nat.add_mul, Nat.one_mul, Nat.add_comm]
theorem flat_get {m : Nat} : ∀ (L : List (List Value)) (i : Nat) (l : List Value), (∀ l ∈ L, l.length = m) → L[i]? = some l → (L.flatten.drop (i * m)).take m = l
  | a :: r, 0, l, h, hi => by
    obtain rfl : a = l := by simpa using hi
    have ha : a.length = m := h a (by simp)
    subst ha
    simp
  | a :: r, i + 1, l, h, hi => by
    have ha : a.length = m := h a (by simp)
    rw [List.flatten_cons, Nat.succ_mul, Nat.add_comm, ← ha, ← List.drop_drop, List.drop_left, ha]
    exact flat_get r i l (fun l hl => h l (by simp [hl])) (by simpa using hi)
theorem flat_set {m : Nat} : ∀ (L : List (List Value)) (i : Nat) (l : List Value), (∀ l ∈ L, l.length = m) → l.length = m → i < L.length → spl L.flatten (i * m) l = (L.set i l).flatten
  | a :: r, 0, l, h, hl, _ => by
    have ha : a.length = m := h a (by simp)
    simp [spl, hl, ← ha]
  | a :: r, i + 1, l, h, hl, hi => by
    have ha : a.length = m := h a (by simp)
    have ih := flat_set r i l (fun l hl => h l (by simp [hl])) hl (by simpa using hi)
    rw [List.set_cons_succ, List.flatten_cons, List.flatten_cons, ← ih]
    unfold spl
    rw [Nat.succ_mul, Nat.add_comm (i * m) m]
    have e1 : (a ++ r.flatten).take (m + i * m) = a ++ r.flatten.take (i * m) := by rw [← ha, List.take_length_add_append]
    have e2 : (a ++ r.flatten).drop (m + i * m + l.length) = r.flatten.drop (i * m + l.length) := by rw [← ha, Nat.add_assoc, List.drop_length_add_append]
    rw [e1, e2]
    simp
/-- Shorter texts: what a step's writing is, and a step named by its operation. -/
theorem put3 : (∀ (l : List Value) (i : Nat) (v : Value), l.toArray.setIfInBounds i v = (l.set i v).toArray) ∧ (∀ (x : Value) (l : List Value) (v : Value), (x :: l).set 0 v = v :: l) ∧ ∀ (x : Value) (l : List Value) (i : Nat) (v : Value), (x :: l).set (i + 1) v = x :: l.set i v := ⟨fun _ _ _ => by simp, fun _ _ _ => rfl, fun _ _ _ _ => rfl⟩
theorem pu : (∀ (a : Act) (d : Tmp) (v : Value), a.put (some d) v = { tmps := a.tmps.setIfInBounds d v, defers := a.defers }) ∧ (∀ (a : Act) (v : Value), a.put none v = a) ∧ (∀ (l : List Value) (i : Nat) (v : Value), l.toArray.setIfInBounds i v = (l.set i v).toArray) ∧ (∀ (x : Value) (l : List Value) (v : Value), (x :: l).set 0 v = v :: l) ∧ ∀ (x : Value) (l : List Value) (i : Nat) (v : Value), (x :: l).set (i + 1) v = x :: l.set i v := ⟨fun _ _ _ => rfl, fun _ _ => rfl, put3⟩
theorem sj {a b : Option Addr} {n c d : Nat} (h : Value.slice a n c = .slice b n d) : a = b ∧ c = d := by
  simp only [Value.slice.injEq, true_and] at h
  exact h
theorem atO {P : Program} {ops : Array Oper} {Q : Exit → Act → World → Prop} {x y z u v : _} (o : _) {r : List Oper} {a : Act} {w : World} (h : wpList P ops Q (⟨x, o, y, z, u, v⟩ :: r) a w) : wpList P ops Q (⟨x, o, y, z, u, v⟩ :: r) a w := h
section
variable {P : Program} {w : World}

/-- These cells read as a value of type t, and nothing that is read takes more than the reach. -/
def Reads (P : Program) (w : World) (t : TypeId) (cs : List Value) : Prop :=
  ∃ (H : Type) (enc : TypeId × Value → H) (fuel : Nat) (x : DataW H × List MemPlace), DataW.trod enc P w 0 (fun _ => true) true fuel t cs = some x ∧ ∀ n ∈ x.1.weights P t, n ≤ reachBytes

theorem Reads.int {t : TypeId} {k : IntKind} {cs : List Value} (hu : P.underlying t = some (.int k)) (h : Reads P w t cs) : ∃ n, cs = [.int k n] ∧ (Lit.int k n).wf = true := by
  obtain ⟨H, enc, fuel, x, h1, _⟩ := h
  obtain ⟨n, r1, _, r2⟩ := DataW.trod_int hu h1
  exact ⟨n, r1, r2⟩
theorem Reads.bool {t : TypeId} {cs : List Value} (hu : P.underlying t = some .bool) (h : Reads P w t cs) : ∃ b, cs = [.bool b] := by
  obtain ⟨H, enc, fuel, x, h1, _⟩ := h
  obtain ⟨b, r1, _⟩ := DataW.trod_bool hu h1
  exact ⟨b, r1⟩
theorem Reads.string {t : TypeId} {cs : List Value} (hu : P.underlying t = some .string) (h : Reads P w t cs) : ∃ s : ByteArray, cs = [.string s] ∧ s.size ≤ reachBytes := by
  obtain ⟨H, enc, fuel, x, h1, h2⟩ := h
  obtain ⟨s, r1, r2, _⟩ := DataW.trod_string hu h1
  refine ⟨s, r1, ?_⟩
  have := h2 s.data.toList.length (by rw [r2]; simp [DataW.weights])
  simpa using this
theorem mem_weightsAll {H : Type} {e : TypeId} {n : Nat} : ∀ {ds : List (DataW H)} {d : DataW H}, d ∈ ds → n ∈ d.weights P e → n ∈ DataW.weightsAll P e ds
  | a :: r, d, hd, hn => by
    simp only [DataW.weightsAll, List.mem_append]
    rcases List.mem_cons.1 hd with rfl | hd
    · exact .inl hn
    · exact .inr (mem_weightsAll hd hn)
theorem cells_of {a : Addr} {n : Nat} {cs : List Value} (h : w.cells? 0 a n = some cs) : cs.length = n ∧ ∀ j v, cs[j]? = some v → w.cell? (a.add j) = some v := by
  obtain ⟨_, h2, h3⟩ := World.cells?_some h
  refine ⟨h2, fun j v hj => ?_⟩
  rw [h3 j (by have := (List.getElem?_eq_some_iff.1 hj).1; omega)]
  exact hj
theorem addr_add (a : Addr) (i j : Nat) : (a.add i).add j = a.add (i + j) := by
  unfold Addr.add
  by_cases hi : i = 0 <;> by_cases hj : j = 0 <;> simp [hi, hj, Nat.add_assoc]
/-- A slice: nil; or each element, up to the capacity, reads. -/
theorem Reads.slice {t e : TypeId} {cs : List Value} (hu : P.underlying t = some (.slice e)) (h : Reads P w t cs) :
    cs = [.slice none 0 0] ∨ ∃ a len cap, cs = [.slice (some a) len cap] ∧ len ≤ cap ∧ cap ≤ maxLen ∧ cap * P.bytesOf e ≤ reachBytes ∧
      ∀ i, i < cap → ∃ cs', cs'.length = P.cellsOf e ∧ (∀ j v, cs'[j]? = some v → w.cell? (a.add (i * P.cellsOf e + j)) = some v) ∧ Reads P w e cs' := by
  obtain ⟨H, enc, fuel, x, h1, h2⟩ := h
  rcases DataW.trod_slice hu h1 with ⟨r, _⟩ | ⟨a, len, cap, elems, rest, n, _, r1, r2, _, hl, hm, hlen, hel, hsp, _⟩
  · exact .inl r
  · right
    obtain ⟨hrl, hsp⟩ := hsp rfl
    have hw : ∀ m ∈ (elems.length + rest.length) * P.bytesOf e :: (DataW.weightsAll P e (elems.map (·.1)) ++ DataW.weightsAll P e (rest.map (·.1))), m ≤ reachBytes := by
      intro m hm'
      refine h2 m ?_
      rw [r2]
      simpa [DataW.weights, hu] using hm'
    refine ⟨a, len, cap, r1, hl, hm, ?_, fun i hi => ?_⟩
    · have := hw _ List.mem_cons_self
      rwa [hlen, hrl, show len + (cap - len) = cap by omega] at this
    · have key : ∃ y, (w.cells? 0 (a.add (i * P.cellsOf e)) (P.cellsOf e)).bind (DataW.trod enc P w 0 (fun _ => true) true n e) = some y ∧ (y ∈ elems ∨ y ∈ rest) := by
        by_cases hil : i < len
        · rw [hel i hil, List.getElem?_eq_getElem (by omega)]
          exact ⟨_, rfl, .inl (List.getElem_mem _)⟩
        · have := hsp (i - len) (by omega)
          rw [show len + (i - len) = i by omega] at this
          rw [this, List.getElem?_eq_getElem (by omega)]
          exact ⟨_, rfl, .inr (List.getElem_mem _)⟩
      obtain ⟨y, hy, hmem⟩ := key
      obtain ⟨cs', hc, ht⟩ := Option.bind_eq_some_iff.1 hy
      obtain ⟨hcl, hcc⟩ := cells_of hc
      refine ⟨cs', hcl, fun j v hj => ?_, H, enc, n, y, ht, fun m hm' => hw m ?_⟩
      · have := hcc j v hj
        rwa [addr_add] at this
      · refine List.mem_cons_of_mem _ (List.mem_append.2 ?_)
        rcases hmem with hmem | hmem
        · exact .inl (mem_weightsAll (List.mem_map_of_mem hmem) hm')
        · exact .inr (mem_weightsAll (List.mem_map_of_mem hmem) hm')
/-- A struct: each field reads. -/
theorem Reads.struct {t : TypeId} {fs : Array Field} {cs : List Value} (hu : P.underlying t = some (.struct fs)) (h : Reads P w t cs) :
    cs.length = P.cellsOf t ∧ ∀ (i : Nat) (f : Field), fs[i]? = some f → Reads P w f.type ((cs.drop f.offset).take (P.cellsOf f.type)) := by
  obtain ⟨H, enc, fuel, x, h1, h2⟩ := h
  obtain ⟨xs, n, _, r2, r3, r4, r5⟩ := DataW.trod_struct hu h1
  refine ⟨r3, fun i f hf => ?_⟩
  have hi : i < xs.length := by rw [r4]; exact (Array.getElem?_eq_some_iff.1 hf).1
  have := r5 i f hf
  rw [List.getElem?_eq_getElem hi] at this
  refine ⟨H, enc, n, _, this, fun m hm => h2 m ?_⟩
  rw [r2]
  simp only [DataW.weights, hu]
  exact DataW.weights_mem_each (j := i) (t := f.type) (d := xs[i].1) (by rw [List.getElem?_map]; simp [hf]) (by simp [hi]) m hm
/-- An array: each element reads. -/
theorem Reads.array {t e : TypeId} {n : Nat} {cs : List Value} (hu : P.underlying t = some (.array n e)) (h : Reads P w t cs) :
    cs.length = P.cellsOf t ∧ ∀ i, i < n → Reads P w e ((cs.drop (i * P.cellsOf e)).take (P.cellsOf e)) := by
  obtain ⟨H, enc, fuel, x, h1, h2⟩ := h
  cases fuel with
  | zero => simp [DataW.trod] at h1
  | succ m =>
    unfold DataW.trod at h1
    rw [hu] at h1
    split at h1 <;> simp_all
    obtain ⟨hl, xs, hp, hd⟩ := h1
    intro i hi
    have hg := mapM_some_get hp i i (by simp [hi])
    have hlen := mapM_some_length hp
    have hil : i < xs.length := by rw [hlen]; simpa using hi
    rw [List.getElem?_eq_getElem hil] at hg
    refine ⟨H, enc, m, _, hg, fun q hq => h2 q ?_⟩
    rw [← hd]
    simp only [DataW.weights, hu]
    exact mem_weightsAll (List.mem_map_of_mem (List.getElem_mem hil)) hq
/-- From 'for each place there is an x' to a list. -/
theorem list_of {α : Type} {p : Nat → α → Prop} : ∀ (n : Nat), (∀ i, i < n → ∃ x, p i x) → ∃ xs : List α, xs.length = n ∧ ∀ i x, xs[i]? = some x → p i x
  | 0, _ => ⟨[], rfl, fun i x h => by simp at h⟩
  | n + 1, h => by
    obtain ⟨xs, hl, hx⟩ := list_of n (fun i hi => h i (by omega))
    obtain ⟨x, hp⟩ := h n (by omega)
    refine ⟨xs ++ [x], by simp [hl], fun i y hi => ?_⟩
    rcases Nat.lt_or_ge i xs.length with hlt | hge
    · rw [List.getElem?_append_left hlt] at hi; exact hx i y hi
    · rw [List.getElem?_append_right hge] at hi
      have h0 : i - xs.length = 0 := by have := (List.getElem?_eq_some_iff.1 hi).1; simpa using this
      rw [h0] at hi
      obtain rfl : x = y := by simpa using hi
      rwa [show i = n by omega]
/-- The address of a slice that has an element. -/
theorem addr_of {a : Addr} {v : Value} (h : w.cell? (a.add 0) = some v) : ∃ g o, a = ⟨g, o, none⟩ ∧ g < w.heap.size := by
  obtain ⟨g, o, sp⟩ := a
  have e : (⟨g, o, sp⟩ : Addr).add 0 = ⟨g, o, sp⟩ := by simp [Addr.add]
  rw [e] at h
  obtain rfl := World.cell?_spot h
  exact ⟨g, o, rfl, World.block_lt_of_cell? w _ h⟩
/-- A slice of elements of one cell: the cells, as a row. -/
theorem Reads.row {t e : TypeId} {cs : List Value} {α : Type} (f : α → Value) (hu : P.underlying t = some (.slice e)) (hc : P.cellsOf e = 1) (hf : ∀ cs', Reads P w e cs' → ∃ x, cs' = [f x]) (h : Reads P w t cs) :
    ∃ (a : Option Addr) (len cap : Nat) (xs : List α), cs = [.slice a len cap] ∧ xs.length = len ∧ len * P.bytesOf e ≤ reachBytes ∧ len ≤ maxLen ∧ (len = 0 ∨ ∃ g o, a = some ⟨g, o, none⟩ ∧ g < w.heap.size ∧ w.rangeAt g o (xs.map f)) := by
  rcases h.slice hu with rfl | ⟨a, len, cap, rfl, hl, hm, hb, hel⟩
  · exact ⟨none, 0, 0, [], rfl, rfl, by simp, by decide, .inl rfl⟩
  · obtain ⟨xs, hxl, hxs⟩ := list_of (p := fun i (x : α) => w.cell? (a.add i) = some (f x)) len (fun i hi => by
      obtain ⟨cs', _, h2, h3⟩ := hel i (by omega)
      obtain ⟨x, rfl⟩ := hf cs' h3
      exact ⟨x, by have := h2 0 _ rfl; rwa [hc, Nat.mul_one, Nat.add_zero] at this⟩)
    refine ⟨some a, len, cap, xs, rfl, hxl, Nat.le_trans (Nat.mul_le_mul_right _ hl) hb, by omega, ?_⟩
    by_cases h0 : len = 0
    · exact .inl h0
    · right
      obtain ⟨x0, hx0⟩ : ∃ x, xs[0]? = some x := ⟨xs[0]'(by omega), List.getElem?_eq_getElem _⟩
      obtain ⟨g, o, rfl, hg⟩ := addr_of (hxs 0 x0 hx0)
      refine ⟨g, o, rfl, hg, fun j v hj => ?_⟩
      rw [List.getElem?_map] at hj
      obtain ⟨x, hx, rfl⟩ := Option.map_eq_some_iff.1 hj
      have := hxs j x hx
      rwa [Addr.add_mid] at this
end
def u8s (l : List UInt8) : List Value := l.map fun c => .int .u8 (c.toNat : Int)
theorem u8s_length (l : List UInt8) : (u8s l).length = l.length := by simp [u8s]
theorem u8s_get (l : List UInt8) (k : Nat) (h : k < l.length) : (u8s l)[k]? = some (.int .u8 (l[k].toNat : Int)) := by simp [u8s, h]
theorem u8s_one (l : List UInt8) : ∀ v ∈ u8s l, v.oneCell' = true := by
  intro v hv; obtain ⟨n, _, rfl⟩ := List.mem_map.1 hv; rfl
theorem u8s_append (a b : List UInt8) : u8s (a ++ b) = u8s a ++ u8s b := by simp [u8s]
theorem u8s_set (l : List UInt8) (k : Nat) (c : UInt8) : (u8s l).set k (.int .u8 (c.toNat : Int)) = u8s (l.set k c) := by simp [u8s, List.map_set]

/-- The value is a slice of these bytes; they lie in a block of E. -/
def BytesIn (w : World) (E : Nat → Prop) (v : Value) (bs : List UInt8) : Prop :=
  ∃ a len cap, v = .slice a len cap ∧ bs.length = len ∧ len ≤ cap ∧ (len = 0 ∨ ∃ g o, a = some ⟨g, o, none⟩ ∧ E g ∧ g < w.heap.size ∧ w.rangeAt g o (u8s bs))
theorem BytesIn.mono {w : World} {E E' : Nat → Prop} {v : Value} {bs : List UInt8} (h : BytesIn w E v bs) (he : ∀ k, E k → E' k) : BytesIn w E' v bs := by
  obtain ⟨a, len, cap, h1, h2, h0, h3⟩ := h
  exact ⟨a, len, cap, h1, h2, h0, h3.imp id fun ⟨g, o, r1, r2, r3⟩ => ⟨g, o, r1, he g r2, r3⟩⟩
theorem BytesIn.fr {w w' : World} {E D : Nat → Prop} {v : Value} {bs : List UInt8} (h : BytesIn w E v bs) (hf : Fr D w w') (hd : ∀ k, E k → k < w.heap.size → ¬ D k) : BytesIn w' E v bs := by
  obtain ⟨a, len, cap, h1, h2, h0, h3⟩ := h
  exact ⟨a, len, cap, h1, h2, h0, h3.imp id fun ⟨g, o, r1, r2, r3, r4⟩ => ⟨g, o, r1, r2, Nat.lt_of_lt_of_le r3 hf.size, hf.range r4 (hd g r2 r3)⟩⟩
/-- Whatever is only made anew leaves bytes as they are. -/
theorem BytesIn.no {w w' : World} {E : Nat → Prop} {v : Value} {bs : List UInt8} (h : BytesIn w E v bs) (hf : Fr No w w') : BytesIn w' E v bs := h.fr hf fun _ _ _ e => e
/-- What is new in w. -/
def New (w : World) : Nat → Prop := fun k => w.heap.size ≤ k
/-- Any block. -/
def Any : Nat → Prop := fun _ => True
theorem BytesIn.any {w : World} {E : Nat → Prop} {v : Value} {bs : List UInt8} (h : BytesIn w E v bs) : BytesIn w Any v bs := h.mono fun _ _ => trivial
theorem bytes_nil (w : World) (E : Nat → Prop) (a : Option Addr) (c : Nat) : BytesIn w E (.slice a 0 c) [] := ⟨a, 0, c, rfl, rfl, Nat.zero_le _, .inl rfl⟩
/-- A whole block of bytes. -/
theorem Blk.bytes {w : World} {E : Nat → Prop} {b : Nat} {t : TypeId} {l : List UInt8} {c : Nat} (h : Blk w b t (u8s l)) (he : E b) (hc : l.length ≤ c) : BytesIn w E (.slice (some ⟨b, 0, none⟩) l.length c) l :=
  ⟨_, _, _, rfl, rfl, hc, .inr ⟨b, 0, rfl, he, h.lt, h.range 0 _ (by rw [List.drop_zero, List.take_length])⟩⟩
/-- An owned row lies where the call's own begins. -/
theorem own_low {w : World} {base : Nat} {e : TypeId} {size : Nat} {v : Value} {n : Nat} {xs : List Value} (h : w.ownsRow base e size v n xs) (g : Nat) (hg : v.ownBlock = some g) : base ≤ g := by
  rcases h.2 with ⟨rfl, _⟩ | ⟨g', cap, cur, rfl, hb, _⟩
  · cases hg
  · cases hg; exact hb
/-- An owned row of bytes. -/
theorem own_bytes {w : World} {base : Nat} {e : TypeId} {v : Value} {n : Nat} {l : List UInt8} (h : w.ownsRow base e 1 v n (u8s l)) : BytesIn w (fun k => base ≤ k) v l := by
  have hn : l.length = n := by have := h.1; rw [u8s_length, Nat.mul_one] at this; exact this
  rcases h.2 with ⟨rfl, h0⟩ | ⟨g, cap, cur, rfl, hb, hg, h1, h2, h3, h4⟩
  · have : l = [] := by
      have h00 : n = 0 := h0
      rw [h00] at hn
      exact List.eq_nil_of_length_eq_zero hn
    subst this
    exact bytes_nil _ _ _ _
  · subst hn
    refine ⟨_, _, _, rfl, rfl, h1, .inr ⟨g, 0, rfl, hb, (Array.getElem?_eq_some_iff.1 hg).1, ?_⟩⟩
    exact Blk.range (t := e) (cs := cur.toList) (by simpa [Blk] using hg) 0 _ (by rw [List.drop_zero, u8s_length, ← Nat.mul_one l.length]; exact h4)

section
variable {P : Program} {w : World}
theorem u8_of {t : TypeId} {cs : List Value} (hu : P.underlying t = some (.int .u8)) (h : Reads P w t cs) : ∃ c : UInt8, cs = [.int .u8 (c.toNat : Int)] := by
  obtain ⟨n, rfl, hw⟩ := h.int hu
  have hb : 0 ≤ n ∧ n ≤ 255 := by simpa [Lit.wf, IntKind.min, IntKind.max, IntKind.signed, IntKind.bits] using hw
  refine ⟨UInt8.ofNat n.toNat, ?_⟩
  rw [UInt8.toNat_ofNat', Nat.mod_eq_of_lt (by omega), Int.toNat_of_nonneg hb.1]
/-- An argument that is a slice of bytes. -/
theorem Reads.u8s {t e : TypeId} {cs : List Value} (hu : P.underlying t = some (.slice e)) (he : P.underlying e = some (.int .u8)) (hc : P.cellsOf e = 1) (hb : P.bytesOf e = 1) (h : Reads P w t cs) :
    ∃ v bs, cs = [v] ∧ BytesIn w (fun k => k < w.heap.size) v bs ∧ bs.length ≤ 140737488351232 := by
  obtain ⟨a, len, cap, xs, rfl, hl, hbb, _, hr⟩ := h.row (fun c : UInt8 => Value.int .u8 (c.toNat : Int)) hu hc (fun cs' h' => u8_of he h')
  rw [hb, show reachBytes = 140737488351232 from rfl, Nat.mul_one] at hbb
  have hle : len ≤ cap := by
    rcases h.slice hu with r | ⟨a', len', cap', r, hle, _⟩
    · simp only [List.cons.injEq, Value.slice.injEq] at r
      omega
    · simp only [List.cons.injEq, Value.slice.injEq] at r
      omega
  exact ⟨_, xs, rfl, ⟨a, len, cap, rfl, hl, hle, hr.imp id fun ⟨g, o, h1, h2, h3⟩ => ⟨g, o, h1, h2, h2, h3⟩⟩, by omega⟩
theorem reads_of {H : Type} {enc : TypeId × Value → H} {W : World} {t : TypeId} {v : Value} {d : DataW H} {p : List MemPlace} {ts : List TypeId} {ds : List (DataW H)}
    (h : DataW.Trod enc P W 0 (fun _ => true) true t v d p) (hsz : (DataW.weightsEach P ts ds).all (· ≤ reachBytes) = true) (j : Nat) (ht : ts[j]? = some t) (hd : ds[j]? = some d) : Reads P W t v.cells.toList := by
  obtain ⟨fuel, h⟩ := h
  exact ⟨H, enc, fuel, _, h, fun n hn => by simpa using List.all_eq_true.1 hsz n (DataW.weights_mem_each ht hd n hn)⟩
end
end Go.Proofs.YtnjemnmhkhkpeaaDoor.K
namespace Go.Proofs.YtnjemnmhkhkpeaaDoor.bulks
set_option maxRecDepth 100000
open Go.RowKit K
theorem length_le {H : Type} : ∀ l : List (DataW H), l.length ≤ Rows.uptoBulkAll l
  | [] => Nat.zero_le _
  | x :: r => by
    have h0 : 1 ≤ Rows.uptoBulk x := by
      cases x with
      | lit l => cases l <;> simp [Rows.uptoBulk]
      | nil => simp [Rows.uptoBulk]
      | ptr d => simp [Rows.uptoBulk]
      | slice elems spare => simp [Rows.uptoBulk]
      | agg parts => simp [Rows.uptoBulk]
      | iface t d => simp [Rows.uptoBulk]
      | map entries => simp [Rows.uptoBulk]
      | held h => simp [Rows.uptoBulk]
    have := length_le r
    simp only [Rows.uptoBulkAll, List.length_cons]; omega
theorem bound {H : Type} {l : List (DataW H)} (hk : Rows.uptoSmall H l = true) : Rows.uptoBulkAll l ≤ 1048576 := of_decide_eq_true hk
theorem bytes_le {P : Program} {W : World} {H : Type} {enc : TypeId × Value → H} {t e : TypeId} {v : Value} {d : DataW H} {p : List MemPlace} (hu : P.underlying t = some (.slice e)) (h : DataW.Trod enc P W 0 (fun _ => true) true t v d p)
    (xs : List UInt8) {E : Nat → Prop} (hx : BytesIn W E v xs) : xs.length ≤ Rows.uptoBulk d := by
  obtain ⟨fuel, h⟩ := h
  obtain ⟨a', len', cap', rfl, hl, _, _⟩ := hx
  rcases DataW.trod_slice hu h with ⟨r, _⟩ | ⟨a, len, cap, elems, rest, n, _, r1, r2, _, _, _, hlen, _⟩
  · simp [Value.cells] at r
    omega
  · simp [Value.cells] at r1
    have : d = .slice (elems.map (·.1)) (rest.map (·.1)) := congrArg Prod.fst r2
    rw [this]
    simp only [Rows.uptoBulk]
    have := length_le (elems.map (·.1))
    simp at this
    omega
theorem slice_le {P : Program} {W : World} {H : Type} {enc : TypeId × Value → H} {t e : TypeId} {a : Option Addr} {k c : Nat} {d : DataW H} {p : List MemPlace} (hu : P.underlying t = some (.slice e)) (h : DataW.Trod enc P W 0 (fun _ => true) true t (.slice a k c) d p) : k ≤ Rows.uptoBulk d := by
  obtain ⟨fuel, h⟩ := h
  rcases DataW.trod_slice hu h with ⟨r, _⟩ | ⟨a, len, cap, elems, rest, n, _, r1, r2, _, _, _, hlen, _⟩
  · simp [Value.cells] at r
    omega
  · simp [Value.cells] at r1
    have : d = .slice (elems.map (·.1)) (rest.map (·.1)) := congrArg Prod.fst r2
    rw [this]
    simp only [Rows.uptoBulk]
    have := length_le (elems.map (·.1))
    simp at this
    omega
theorem text_le {P : Program} {W : World} {H : Type} {enc : TypeId × Value → H} {t : TypeId} {s : ByteArray} {d : DataW H} {p : List MemPlace} (hu : P.underlying t = some .string) (h : DataW.Trod enc P W 0 (fun _ => true) true t (.string s) d p) : s.size ≤ Rows.uptoBulk d := by
  obtain ⟨fuel, h⟩ := h
  obtain ⟨s', r1, r2, _⟩ := DataW.trod_string hu h
  have e : s' = s := by simp [Value.cells] at r1; exact r1.symm
  subst e
  have : d = .lit (.string s'.data.toList) := congrArg Prod.fst r2
  rw [this]
  simp [Rows.uptoBulk]
end Go.Proofs.YtnjemnmhkhkpeaaDoor.bulks
