/-
  Part 0 of the proof: Kit, Open, Bytes, Bulk, BeD, Draw.
-/
import Derived.WalkKit
import Derived.ProofKit
import Derived.Below
import Derived.Deep.MidRow
import Derived.Laws.LoneSync
import Derived.OwnWalk
import Derived.Deep.QuietTactic
import Derived.BigQuiet
import Derived.Deep.RegionHeld3
import Derived.Deep.RegionLaw
import Derived.StillTailTactics
import Derived.Great.BuildSlice
import Derived.Deep.AppendLies
import Derived.SizedLaws
import Derived.ChangeOld
import Derived.Carry
import Derived.OpenShut
import Derived.Test.YtgbiicipkbpmeaaGreatDoorRows
set_option linter.unusedSimpArgs false
set_option linter.unusedVariables false
namespace Go.Proofs.YtgbiicipkbpmeaaGreatDoor.K
set_option maxRecDepth 100000
open Go.RowKit
theorem hid {p : Prop} (h : p) : Hid p := h
structure Fr (D : Nat → Prop) (w w' : World) : Prop where
 os : w'.os = w.os
 tape : w'.tape = w.tape
 output : w'.output = w.output
 size : w.heap.size ≤ w'.heap.size
 block : ∀ k, k < w.heap.size → ¬ D k → w'.heap[k]? = w.heap[k]?
def No : Nat → Prop := fun _ => False
def Grows (w : World) (D D' : Nat → Prop) : Prop := ∀ k, D' k → D k ∨ w.heap.size ≤ k
theorem Fr.refl (D : Nat → Prop) (w : World) : Fr D w w := ⟨rfl, rfl, rfl, Nat.le_refl _, fun _ _ _ => rfl⟩
theorem Fr.trans {D D' : Nat → Prop} {a b c : World} (h : Fr D a b) (k : Fr D' b c) (hd : Grows a D D') : Fr D a c :=
 ⟨k.os.trans h.os, k.tape.trans h.tape, k.output.trans h.output, Nat.le_trans h.size k.size, fun i hi hn =>
  (k.block i (Nat.lt_of_lt_of_le hi h.size) (fun e => (hd i e).elim hn (fun g => by omega))).trans (h.block i hi hn)⟩
theorem Fr.mono {D D' : Nat → Prop} {a b : World} (h : Fr D a b) (hd : ∀ k, D k → D' k) : Fr D' a b :=
 ⟨h.os, h.tape, h.output, h.size, fun i hi hn => h.block i hi (fun e => hn (hd i e))⟩
theorem Fr.no {D : Nat → Prop} {a b : World} (h : Fr No a b) : Fr D a b := h.mono fun _ e => e.elim
theorem Fr.trans' {D : Nat → Prop} {a b c : World} (h : Fr D a b) (k : Fr D b c) : Fr D a c := h.trans k fun _ e => .inl e
theorem Fr.drew {D : Nat → Prop} {a w : World} (h : Fr D a w) : Fr D a w.drew := ⟨h.os, h.tape, h.output, h.size, h.block⟩
theorem Fr.drewN {D : Nat → Prop} {a w : World} (h : Fr D a w) (n : Nat) : Fr D a (w.drewN n) := ⟨h.os, h.tape, h.output, h.size, h.block⟩
theorem Fr.alloc {D : Nat → Prop} {a w : World} (h : Fr D a w) (o : Obj) : Fr D a (w.alloc o) :=
 h.trans (D' := No) ⟨rfl, rfl, rfl, by simp, fun k hk _ => Below.heap_alloc _ _ _ hk⟩ (fun _ e => e.elim)
theorem Fr.setCell {D : Nat → Prop} {a w : World} (h : Fr D a w) (p : Addr) (u : Value) (hp : D p.block ∨ a.heap.size ≤ p.block) : Fr D a (w.setCell p u) :=
 h.trans (D' := fun k => k = p.block) ⟨rfl, rfl, rfl, by simp, fun k _ hn => Below.heap_setCell _ _ _ _ hn⟩ (fun k e => by subst e; exact hp)
theorem heap_setCells (b : Nat) : ∀ (vs : List Value) (o : Nat) (w : World) (k : Nat), k ≠ b → (w.setCells b o vs).heap[k]? = w.heap[k]?
 | [], _, _, _, _ => rfl
 | v :: r, o, w, k, h => by rw [World.setCells, heap_setCells b r (o + 1) _ k h, Below.heap_setCell _ _ _ _ h]
theorem setCells_same (b : Nat) : ∀ (vs : List Value) (o : Nat) (w : World), (w.setCells b o vs).os = w.os ∧ (w.setCells b o vs).tape = w.tape ∧ (w.setCells b o vs).output = w.output ∧ (w.setCells b o vs).heap.size = w.heap.size
 | [], _, _ => ⟨rfl, rfl, rfl, rfl⟩
 | v :: r, o, w => by
  obtain ⟨h1, h2, h3, h4⟩ := setCells_same b r (o + 1) (w.setCell ⟨b, o, none⟩ v)
  exact ⟨h1, h2, h3, h4.trans (by simp)⟩
@[simp] theorem size_setCells (b o : Nat) (vs : List Value) (w : World) : (w.setCells b o vs).heap.size = w.heap.size := (setCells_same b vs o w).2.2.2
theorem Fr.setCells {D : Nat → Prop} {a w : World} (h : Fr D a w) (b o : Nat) (vs : List Value) (hp : D b ∨ a.heap.size ≤ b) : Fr D a (w.setCells b o vs) :=
 h.trans (D' := fun k => k = b)
  ⟨(setCells_same b vs o w).1, (setCells_same b vs o w).2.1, (setCells_same b vs o w).2.2.1, by simp, fun k _ hn => heap_setCells _ _ _ _ _ hn⟩ (fun k e => by subst e; exact hp)
theorem Fr.grown {D : Nat → Prop} {a w w' : World} {row : Option Nat} (h : Fr D a w) (hg : w.grownBy w' row) (hp : ∀ k, row = some k → D k ∨ a.heap.size ≤ k) : Fr D a w' :=
 h.trans (D' := fun k => row = some k) ⟨hg.os, hg.tape, hg.output, hg.size, fun k hk hn => hg.block k hk (fun e => hn e.symm)⟩ hp
theorem Fr.below {D : Nat → Prop} {w w' : World} {B : Nat} (h : Fr D w w') (hd : ∀ k, D k → B ≤ k) (hB : B ≤ w.heap.size) : Below B w w' :=
 ⟨h.os, h.tape, h.output, h.size, fun k hk => h.block k (by omega) (fun e => by have := hd k e; omega)⟩
theorem Fr.cell {D : Nat → Prop} {w w' : World} (h : Fr D w w') {p : Addr} {v : Value} (hc : w.cell? p = some v) (hn : ¬ D p.block) : w'.cell? p = some v :=
 (World.cell?_of_block (h.block p.block (World.block_lt_of_cell? w p hc) hn)).trans hc
theorem Fr.range {D : Nat → Prop} {w w' : World} (h : Fr D w w') {b o : Nat} {cs : List Value} (hc : w.rangeAt b o cs) (hn : ¬ D b) : w'.rangeAt b o cs :=
 fun j v hj => h.cell (hc j v hj) hn
theorem Grows.refl (w : World) (D : Nat → Prop) : Grows w D D := fun _ e => .inl e
theorem Grows.trans {a b : World} {D D' D'' : Nat → Prop} (h : Grows a D D') (k : Grows b D' D'') (hs : a.heap.size ≤ b.heap.size) : Grows a D D'' :=
 fun i e => (k i e).elim (fun e' => h i e') (fun e' => .inr (Nat.le_trans hs e'))
theorem Grows.later {a b : World} {D D' : Nat → Prop} (h : Grows b D D') (hs : a.heap.size ≤ b.heap.size) : Grows a D D' := (Grows.refl a D).trans h hs
theorem Grows.apart {w : World} {D D' : Nat → Prop} (h : Grows w D D') {k : Nat} (hk : ¬ D k) (hl : k < w.heap.size) : ¬ D' k := fun e => (h k e).elim hk (fun g => by omega)
def Blk (w : World) (b : Nat) (t : TypeId) (cs : List Value) : Prop := w.heap[b]? = some (.cells cs.toArray t (0, 0))
theorem Blk.lt {w : World} {b : Nat} {t : TypeId} {cs : List Value} (h : Blk w b t cs) : b < w.heap.size := (Array.getElem?_eq_some_iff.1 h).1
theorem Blk.cell {w : World} {b : Nat} {t : TypeId} {cs : List Value} (h : Blk w b t cs) (j : Nat) : w.cell? ⟨b, j, none⟩ = cs[j]? := by
 rw [cell_of_row w b j cs.toArray t (0, 0) h]; simp
theorem Blk.frozen {w : World} {b : Nat} {t : TypeId} {cs : List Value} (h : Blk w b t cs) (j : Nat) : w.frozen? ⟨b, j, none⟩ = false := frozen_of_row w b j _ t h
theorem Blk.new (w : World) (t : TypeId) (cs : List Value) : Blk (w.alloc (.cells cs.toArray t)) w.heap.size t cs := heap_alloc_new w _
theorem Blk.alloc {w : World} {b : Nat} {t : TypeId} {cs : List Value} (h : Blk w b t cs) (o : Obj) : Blk (w.alloc o) b t cs := (Below.heap_alloc _ _ _ h.lt).trans h
theorem Blk.drew {w : World} {b : Nat} {t : TypeId} {cs : List Value} (h : Blk w b t cs) : Blk w.drew b t cs := h
theorem Blk.set {w : World} {b : Nat} {t : TypeId} {cs : List Value} (h : Blk w b t cs) (j : Nat) (v : Value) : Blk (w.setCell ⟨b, j, none⟩ v) b t (cs.set j v) := by
 have := heap_setCell_same w b j cs.toArray t v h
 simpa [Blk] using this
theorem Blk.fr {D : Nat → Prop} {w w' : World} {b : Nat} {t : TypeId} {cs : List Value} (h : Blk w b t cs) (hf : Fr D w w') (hn : ¬ D b) : Blk w' b t cs := (hf.block b h.lt hn).trans h
def spl (cs : List Value) (o : Nat) (vs : List Value) : List Value := cs.take o ++ vs ++ cs.drop (o + vs.length)
theorem spl_nil (cs : List Value) (o : Nat) : spl cs o [] = cs := by simp [spl]
theorem spl_cons (cs : List Value) (o : Nat) (v : Value) (r : List Value) (h : o < cs.length) : spl (cs.set o v) (o + 1) r = spl cs o (v :: r) := by
 unfold spl
 have e1 : (cs.set o v).take (o + 1) = cs.take o ++ [v] := by
  rw [List.take_set, List.take_succ_eq_append_getElem h, List.set_append_right _ _ (by simp; omega)]
  simp [List.length_take, Nat.min_eq_left (Nat.le_of_lt h)]
 have e2 : (cs.set o v).drop (o + 1 + r.length) = cs.drop (o + (v :: r).length) := by
  rw [List.drop_set_of_lt (by omega)]
  congr 1
  simp; omega
 rw [e1, e2]
 simp
theorem spl_length (cs : List Value) (o : Nat) (vs : List Value) (h : o + vs.length ≤ cs.length) : (spl cs o vs).length = cs.length := by
 simp [spl]; omega
theorem Blk.sets {b : Nat} {t : TypeId} : ∀ (vs : List Value) (o : Nat) {w : World} {cs : List Value}, Blk w b t cs → o + vs.length ≤ cs.length → Blk (w.setCells b o vs) b t (spl cs o vs)
 | [], o, w, cs, h, _ => by rw [spl_nil]; exact h
 | v :: r, o, w, cs, h, hl => by
  have := Blk.sets r (o + 1) (h.set o v) (by simp at hl ⊢; omega)
  rw [spl_cons _ _ _ _ (by simp at hl; omega)] at this
  exact this
theorem Blk.range {w : World} {b : Nat} {t : TypeId} {cs : List Value} (h : Blk w b t cs) (o : Nat) (vs : List Value) (hv : (cs.drop o).take vs.length = vs) : w.rangeAt b o vs := by
 intro j v hj
 rw [h.cell, ← hj, ← hv]
 have hl : j < vs.length := (List.getElem?_eq_some_iff.1 hj).1
 rw [List.getElem?_take, if_pos hl, List.getElem?_drop]
theorem Blk.there {w : World} {b : Nat} {t : TypeId} {cs : List Value} (h : Blk w b t cs) (o n : Nat) (hl : o + n ≤ cs.length) : w.there b o n := by
 intro j hj
 rw [h.cell, h.frozen]
 simp
 omega
theorem Blk.own {w : World} {b : Nat} {t : TypeId} {cs : List Value} {base size n cap : Nat} {xs : List Value} (h : Blk w b t cs) (hb : base ≤ b) (hx : xs.length = n * size) (hn : n ≤ cap) (hc : cap ≤ maxLen)
  (hs : cs.length = cap * size) (ht : cs.take (n * size) = xs) : w.ownsRow base t size (.slice (some ⟨b, 0, none⟩) n cap) n xs :=
 ⟨hx, .inr ⟨b, cap, cs.toArray, rfl, hb, h, hn, hc, by simpa using hs, by simpa using ht⟩⟩
theorem Blk.grown {w w' : World} {b : Nat} {t : TypeId} {cs : List Value} {row : Option Nat} (h : Blk w b t cs) (hg : w.grownBy w' row) (hn : some b ≠ row) : Blk w' b t cs := (hg.block b h.lt hn).trans h
theorem Blk.news {w : World} {b : Nat} {t : TypeId} {cs : List Value} (h : Blk w b t cs) : ∀ j u, cs[j]? = some u → w.cell? ((⟨b, 0, none⟩ : Addr).add j) = some u := fun j u hj => by
 rw [Addr.add_mid, Nat.zero_add, h.cell]; exact hj
theorem own_fr {D : Nat → Prop} {w w' : World} {base : Nat} {e : TypeId} {size : Nat} {v : Value} {n : Nat} {xs : List Value} (h : w.ownsRow base e size v n xs) (hf : Fr D w w') (hn : ∀ k, v.ownBlock = some k → ¬ D k) : w'.ownsRow base e size v n xs := by
 refine ⟨h.1, ?_⟩
 rcases h.2 with h0 | ⟨g, cap, cur, rfl, hb, hg, r⟩
 ·exact .inl h0
 ·exact .inr ⟨g, cap, cur, rfl, hb, (hf.block g (Array.getElem?_eq_some_iff.1 hg).1 (hn g rfl)).trans hg, r⟩
theorem own_form {w : World} {base : Nat} {e : TypeId} {size : Nat} {v : Value} {n : Nat} {xs : List Value} (h : w.ownsRow base e size v n xs) :
  ∃ a cap, v = .slice a n cap ∧ n ≤ 9223372036854775807 ∧ (0 < n → ∃ g, a = some ⟨g, 0, none⟩) := by
 rcases h.2 with ⟨rfl, rfl⟩ | ⟨g, cap, cur, rfl, _, _, h1, h2, _⟩
 ·exact ⟨none, 0, rfl, by decide, fun h => by omega⟩
 ·exact ⟨_, cap, rfl, by have := Nat.le_trans h1 h2; unfold maxLen at this; omega, fun _ => ⟨g, rfl⟩⟩
section
variable {P : Program} {ops : Array Oper} {rest : List Oper} {op : Oper} {a : Act} {w : World} {Q : Exit → Act → World → Prop}
theorem wpL_alloc (hgd : op.guard = none) (t : TypeId) (ho : op.op = .alloc t) (z : Value) (hz : ∀ w, (zeroValue t).run P w = .ok z w) (zs : List Value) (hzs : z.cells = zs.toArray)
  (h : ∀ w', Hid (Blk w' w.heap.size t zs) → Hid (Fr No w w') → Hid (w'.heap.size = w.heap.size + 1) → wpList P ops Q rest (a.put op.dst (.pointer (some ⟨w.heap.size, 0, none⟩))) w') : wpList P ops Q (op :: rest) a w := by
 refine wpList_plain hgd fun K hK => ?_
 unfold Oper.wp
 have h1 := h (w.alloc (.cells z.cells t)) (hid (by rw [hzs]; exact Blk.new w t zs)) (hid ((Fr.refl _ _).alloc _)) (hid (by simp))
 simp [execOp, ho, Instr.alloc, hz, newVar, newRow, Result.andThen]
 exact hK _ _ h1
theorem made_one (z : Array Value) (v : Value) (n m : Nat) (hz : z = (List.replicate m v).toArray) (hm : 0 < m) : madeCells z n = (List.replicate n v).toArray := by
 subst hz
 apply Array.ext
 ·simp [madeCells]
 ·intro i h1 h2
  have : i % m < m := Nat.mod_lt _ hm
  simp [madeCells, this]
theorem wpL_make (hgd : op.guard = none) (l c : Operand) (t : TypeId) (ho : op.op = .makeSlice t l c) (e : TypeId) (i : TypeInfo) (z v : Value) (m : Nat) (hu : P.underlying t = some (.slice e)) (hi : P.info? e = some i)
  (hz : i.zero = some z) (hzm : z.cells = (List.replicate m v).toArray) (hm : 0 < m) (hs : i.size = m) (kl kc : IntKind) (n : Nat) (hl : a.eval l = .int kl n) (hc : a.eval c = .int kc n) (b2 : i.bytes * n ≤ 281474976710656) (b3 : n ≤ maxLen)
  (h : ∀ w', Hid (Blk w' w.heap.size e (List.replicate (n * m) v)) → Hid (Fr No w w') → Hid (w'.heap.size = w.heap.size + 1) → wpList P ops Q rest (a.put op.dst (.slice (some ⟨w.heap.size, 0, none⟩) n n)) w') : wpList P ops Q (op :: rest) a w := by
 refine wpList_plain hgd fun K hK => ?_
 have hrun := run_make (P := P) w t e i z hu hi hz kl kc n n (by omega) (Int.le_refl _) (by omega) (by unfold maxLen at b3; omega)
 rw [made_one z.cells v _ m hzm hm, hs] at hrun
 unfold Oper.wp
 simp [execOp, ho, hl, hc, hrun, Result.andThen]
 exact hK _ _ (h _ (hid (by simpa using Blk.new w e (List.replicate (n * m) v))) (hid ((Fr.refl _ _).alloc _)) (hid (by simp)))
theorem run_append_any (t ty : TypeId) (base : Nat) (e : TypeId) (i : TypeInfo) (z : Value) (size bytes : Nat) (ht : P.underlying t = some (.slice e)) (hi : P.info? e = some i) (hz : i.zero = some z)
  (hsize : i.size = size) (hby : i.bytes = bytes) (hzs : z.cells.size = size) (hsz : 0 < size) (v : Value) (n : Nat) (xs : List Value) (hown : w.ownsRow base e size v n xs)
  (sp : Option Addr) (m c : Nat) (news : List Value) (hl : news.length = m * size) (hsrc : m = 0 ∨ ∃ ad, sp = some ad ∧ ∀ j u, news[j]? = some u → w.cell? (ad.add j) = some u) (h1 : ∀ u ∈ news, u.oneCell' = true)
  (h63 : n + m ≤ maxLen) (hbytes : (n + m) * bytes ≤ 140737488355328) (hbase : base ≤ w.heap.size) :
  ∃ v' w', (Builtin.append_ #[t, t] ty #[v, .slice sp m c]).run P w = .ok v' w' ∧ w'.ownsRow base e size v' (n + m) (xs ++ news) ∧ w.grownBy w' v.ownBlock ∧ (v'.ownBlock = v.ownBlock ∨ v'.ownBlock = some w.heap.size) ∧ ∃ a cap, v' = .slice a (n + m) cap := by
 by_cases h0 : m = 0
 ·subst h0
  obtain rfl : news = [] := List.eq_nil_of_length_eq_zero (by simpa using hl)
  have hf : ∀ x : Option Addr, (Builtin.firstCells i.size 0 (.slice x 0 c)).run P w = .ok #[] w := by
   intro x; cases x <;> simp [Builtin.firstCells, loadCells, loadCellsFrom]
  have hf' : (Builtin.firstCells i.size 0 (.slice sp 0 c)).run P w = .ok #[] w := hf sp
  refine ⟨v, w, ?_, by simpa using hown, ⟨rfl, rfl, rfl, Nat.le_refl _, fun _ _ _ => rfl⟩, .inl rfl, ?_⟩
  ·rcases hown.2 with ⟨rfl, rfl⟩ | ⟨g, cap, cur, rfl, _, _, hnc, _⟩
   ·simp [Builtin.append_, run_underlying ht, sizeOf, typeInfo, hi, Builtin.lenOf, hf', Result.andThen]
   ·simp [Builtin.append_, run_underlying ht, sizeOf, typeInfo, hi, Builtin.lenOf, hf', Result.andThen, hnc, storeCells]
  ·obtain ⟨a, cap, hv, _⟩ := own_form hown
   exact ⟨a, cap, hv⟩
 ·obtain ⟨ad, rfl, hc⟩ := hsrc.resolve_left h0
  obtain ⟨g, cap, w', hr, h2, h3, h4, _⟩ := run_append_lies (P := P) w t ty base e i z size bytes ht hi hz hsize hby hzs hsz v n xs hown ad m c news hl hc h1 (by omega) h63 hbytes hbase _ rfl
  exact ⟨_, w', hr, h2, h3, h4.imp (fun h => by rw [h]; rfl) (fun h => by rw [h]; rfl), _, _, rfl⟩
theorem wpL_append (hgd : op.guard = none) (s x : Operand) (t : TypeId) (ho : op.op = .call { callee := .builtin .append, args := #[s, x], argTypes := #[t, t] })
  (base : Nat) (e : TypeId) (i : TypeInfo) (z : Value) (size bytes : Nat) (ht : P.underlying t = some (.slice e)) (hi : P.info? e = some i) (hz : i.zero = some z)
  (hsize : i.size = size) (hby : i.bytes = bytes) (hzs : z.cells.size = size) (hsz : 0 < size) (v : Value) (n : Nat) (xs : List Value) (hv : a.eval s = v) (hown : w.ownsRow base e size v n xs)
  (sp : Option Addr) (m c : Nat) (news : List Value) (hx : a.eval x = .slice sp m c) (hl : news.length = m * size) (hsrc : m = 0 ∨ ∃ ad, sp = some ad ∧ ∀ j u, news[j]? = some u → w.cell? (ad.add j) = some u) (h1 : ∀ u ∈ news, u.oneCell' = true)
  (h63 : n + m ≤ maxLen) (hbytes : (n + m) * bytes ≤ 140737488355328) (hbase : base ≤ w.heap.size)
  (h : ∀ a' cap' w', Hid (w'.ownsRow base e size (.slice a' (n + m) cap') (n + m) (xs ++ news)) → Hid (w.grownBy w' v.ownBlock) → Hid ((Value.slice a' (n + m) cap').ownBlock = v.ownBlock ∨ (Value.slice a' (n + m) cap').ownBlock = some w.heap.size) →
   wpList P ops Q rest (a.put op.dst (.slice a' (n + m) cap')) w') : wpList P ops Q (op :: rest) a w := by
 refine wpList_plain hgd fun K hK => ?_
 obtain ⟨v', w', hr, h2, h3, h4, a', cap', rfl⟩ := run_append_any (P := P) (w := w) t op.type base e i z size bytes ht hi hz hsize hby hzs hsz v n xs hown sp m c news hl hsrc h1 h63 hbytes hbase
 unfold Oper.wp execOp
 simp only [ho, resolve, invoke, builtin, Sem.run_bind, Sem.run_pure, Result.andThen_ok, List.map_toArray, List.map_cons, List.map_nil, hv, hx, hr]
 exact hK _ _ (h a' cap' w' h2 h3 h4)
theorem wpL_buildSlice (hgd : op.guard = none) (t e : TypeId) (n : Nat) (parts : List (Nat × Operand)) (ho : op.op = .buildSlice t n parts.toArray) (cs : List Value)
  (hrun : (Instr.buildSlice t n (parts.map fun x => (x.1, a.eval x.2)).toArray).run P w = .ok (.slice (some ⟨w.heap.size, 0, none⟩) n n) (w.alloc (.cells cs.toArray e)))
  (h : ∀ w', Hid (Blk w' w.heap.size e cs) → Hid (Fr No w w') → Hid (w'.heap.size = w.heap.size + 1) → wpList P ops Q rest (a.put op.dst (.slice (some ⟨w.heap.size, 0, none⟩) n n)) w') : wpList P ops Q (op :: rest) a w := by
 refine wpList_plain hgd fun K hK => ?_
 unfold Oper.wp
 have h1 := h (w.alloc (.cells cs.toArray e)) (hid (Blk.new w e cs)) (hid ((Fr.refl _ _).alloc _)) (hid (by simp))
 simp [execOp, ho, hrun, Result.andThen]
 exact hK _ _ h1
theorem wpL_appendNew (hgd : op.guard = none) (s x : Operand) (t : TypeId) (ho : op.op = .call { callee := .builtin .append, args := #[s, x], argTypes := #[t, t] })
  (base : Nat) (e : TypeId) (i : TypeInfo) (z : Value) (size bytes : Nat) (ht : P.underlying t = some (.slice e)) (hi : P.info? e = some i) (hz : i.zero = some z)
  (hsize : i.size = size) (hby : i.bytes = bytes) (hzs : z.cells.size = size) (hsz : 0 < size) (v : Value) (hv : a.eval s = v) (hown : w.ownsRow base e size v 0 [])
  (sp : Option Addr) (m c : Nat) (news : List Value) (hx : a.eval x = .slice sp m c) (hl : news.length = m * size) (hsrc : m = 0 ∨ ∃ ad, sp = some ad ∧ ∀ j u, news[j]? = some u → w.cell? (ad.add j) = some u) (h1 : ∀ u ∈ news, u.oneCell' = true)
  (h63 : m ≤ maxLen) (hbytes : m * bytes ≤ 140737488355328) (hbase : base ≤ w.heap.size)
  (h : ∀ a' cap' w', Hid (w'.ownsRow base e size (.slice a' m cap') m news) → Hid (w.grownBy w' v.ownBlock) → Hid ((Value.slice a' m cap').ownBlock = v.ownBlock ∨ (Value.slice a' m cap').ownBlock = some w.heap.size) →
   wpList P ops Q rest (a.put op.dst (.slice a' m cap')) w') : wpList P ops Q (op :: rest) a w :=
 wpL_append hgd s x t ho base e i z size bytes ht hi hz hsize hby hzs hsz v 0 [] hv hown sp m c news hx hl hsrc h1 (by omega) (by simpa using hbytes) hbase
  (fun a' cap' w' h2 h3 h4 => by rw [Nat.zero_add] at h2 h4 ⊢; exact h a' cap' w' h2 h3 h4)
theorem wpL_buildNone (hgd : op.guard = none) (t e : TypeId) (ho : op.op = .buildSlice t 0 #[]) (hrun : ∀ w, (Instr.buildSlice t 0 #[]).run P w = .ok (.slice (some ⟨w.heap.size, 0, none⟩) 0 0) (w.alloc (.cells #[] e)))
  (h : ∀ w', Hid (Blk w' w.heap.size e []) → Hid (Fr No w w') → Hid (w'.heap.size = w.heap.size + 1) → wpList P ops Q rest (a.put op.dst (.slice (some ⟨w.heap.size, 0, none⟩) 0 0)) w') : wpList P ops Q (op :: rest) a w := by
 refine wpList_plain hgd fun K hK => ?_
 unfold Oper.wp
 have h1 := h (w.alloc (.cells #[] e)) (hid (Blk.new w e [])) (hid ((Fr.refl _ _).alloc _)) (hid (by simp))
 simp [execOp, ho, hrun, Result.andThen]
 exact hK _ _ h1
theorem wpL_load (hgd : op.guard = none) (ty : TypeId) (x : Operand) (ho : op.op = .load ty x) (b o : Nat) (hx : a.eval x = .pointer (some ⟨b, o, none⟩)) (cs : List Value) (d : TypeDesc) (hc : w.rangeAt b o cs)
  (hu : P.underlying ty = some d) (hd : d.isRow = true) (hi : (P.info? ty).map (·.size) = some cs.length) (h : wpList P ops Q rest (a.put op.dst (.agg cs.toArray)) w) : wpList P ops Q (op :: rest) a w :=
 wpList_load_mid hgd ty x ho b o hx cs d hc hu hd hi h
theorem wpL_store (hgd : op.guard = none) (ty : TypeId) (x y : Operand) (ho : op.op = .store ty x y) (b o : Nat) (vs : List Value) (hx : a.eval x = .pointer (some ⟨b, o, none⟩)) (hy : a.eval y = .agg vs.toArray)
  (t : TypeId) (cs : List Value) (hB : Blk w b t cs) (hle : o + vs.length ≤ cs.length) (hi : (P.info? ty).map (·.size) = some vs.length) (h1 : ∀ v ∈ vs, v.oneCell' = true)
  (h : ∀ w', Hid (Blk w' b t (spl cs o vs)) → Hid (Fr (fun k => k = b) w w') → Hid (w'.heap.size = w.heap.size) → wpList P ops Q rest (a.put op.dst undef) w') : wpList P ops Q (op :: rest) a w :=
 wpList_plain hgd fun _ hK => wp_store_mid ty x y ho b o vs.toArray hx hy (by simpa using hB.there o vs.length hle) (by simpa using hi) (by simpa using h1)
  (hK _ _ (h _ (hid (by simpa using hB.sets vs o hle)) (hid (by simpa using (Fr.refl (fun k => k = b) w).setCells b o vs.toArray.toList (.inl rfl))) (hid (by simp))))
theorem wpL_box (hgd : op.guard = none) (t : TypeId) (x : Operand) (ho : op.op = .box t x) (v : Value) (hv : a.eval x = v) (cs : List Value) (hcs : v.cells = cs.toArray)
  (h : ∀ w', Hid (Blk w' w.heap.size t cs) → Hid (Fr No w w') → Hid (w'.heap.size = w.heap.size + 1) → wpList P ops Q rest (a.put op.dst (.pointer (some ⟨w.heap.size, 0, none⟩))) w') : wpList P ops Q (op :: rest) a w := by
 refine wpList_plain hgd fun K hK => ?_
 unfold Oper.wp
 have h1 := h (w.alloc (.cells v.cells t)) (hid (by rw [hcs]; exact Blk.new w t cs)) (hid ((Fr.refl _ _).alloc _)) (hid (by simp))
 simp [execOp, ho, Instr.box, hv, newVar, newRow, Result.andThen]
 exact hK _ _ h1
end
theorem ret_cell {P : Program} {fn : Func} {R : Ending → World → Prop} {a : Act} {w : World} {p : Tmp} {ty : TypeId} {b : Nat} {t : TypeId} {cs : List Value} (hr : fn.results = #[.cell p ty]) (d : TypeDesc) (hp : a.tmps.getD p undef = .pointer (some ⟨b, 0, none⟩)) (hB : Blk w b t cs)
  (hu : P.underlying ty = some d) (hd : (match d with | .struct _ | .array _ _ => true | _ => false) = true) (hi : (P.info? ty).map (·.size) = some cs.length) (hdf : a.defers = []) (h : R (.returned (.agg cs.toArray)) w) : bodyPost P fn R .ret a w :=
 bodyPost_ret (results_cell_row hr a.tmps w b t cs.toArray (0, 0) d hp hB hu hd (by simpa using hi)) hdf h
theorem flat_length {m : Nat} : ∀ (L : List (List Value)), (∀ l ∈ L, l.length = m) → L.flatten.length = L.length * m
 | [], _ => by simp
 | a :: r, h => by
  rw [List.flatten_cons, List.length_append, flat_length r (fun l hl => h l (by simp [hl])), h a (by simp), List.length_cons, Nat.add_mul, Nat.one_mul, Nat.add_comm]
theorem flat_get {m : Nat} : ∀ (L : List (List Value)) (i : Nat) (l : List Value), (∀ l ∈ L, l.length = m) → L[i]? = some l → (L.flatten.drop (i * m)).take m = l
 | a :: r, 0, l, h, hi => by
  obtain rfl : a = l := by simpa using hi
  have ha : a.length = m := h a (by simp)
  subst ha
  simp
 | a :: r, i + 1, l, h, hi => by
  have ha : a.length = m := h a (by simp)
  rw [List.flatten_cons, Nat.succ_mul, Nat.add_comm, ← ha, ← List.drop_drop, List.drop_left, ha]
  exact flat_get r i l (fun l hl => h l (by simp [hl])) (by simpa using hi)
theorem put3 : (∀ (l : List Value) (i : Nat) (v : Value), l.toArray.setIfInBounds i v = (l.set i v).toArray) ∧ (∀ (x : Value) (l : List Value) (v : Value), (x :: l).set 0 v = v :: l) ∧ ∀ (x : Value) (l : List Value) (i : Nat) (v : Value), (x :: l).set (i + 1) v = x :: l.set i v := ⟨fun _ _ _ => by simp, fun _ _ _ => rfl, fun _ _ _ _ => rfl⟩
theorem pu : (∀ (a : Act) (d : Tmp) (v : Value), a.put (some d) v = { tmps := a.tmps.setIfInBounds d v, defers := a.defers }) ∧ (∀ (a : Act) (v : Value), a.put none v = a) ∧ (∀ (l : List Value) (i : Nat) (v : Value), l.toArray.setIfInBounds i v = (l.set i v).toArray) ∧ (∀ (x : Value) (l : List Value) (v : Value), (x :: l).set 0 v = v :: l) ∧ ∀ (x : Value) (l : List Value) (i : Nat) (v : Value), (x :: l).set (i + 1) v = x :: l.set i v := ⟨fun _ _ _ => rfl, fun _ _ => rfl, put3⟩
theorem sj {a b : Option Addr} {n c d : Nat} (h : Value.slice a n c = .slice b n d) : a = b ∧ c = d := by
 simp only [Value.slice.injEq, true_and] at h
 exact h
theorem atO {P : Program} {ops : Array Oper} {Q : Exit → Act → World → Prop} {x y z u v : _} (o : _) {r : List Oper} {a : Act} {w : World} (h : wpList P ops Q (⟨x, o, y, z, u, v⟩ :: r) a w) : wpList P ops Q (⟨x, o, y, z, u, v⟩ :: r) a w := h
section
variable {P : Program} {w : World}
def Reads (P : Program) (w : World) (t : TypeId) (cs : List Value) : Prop :=
 ∃ (H : Type) (enc : TypeId × Value → H) (fuel : Nat) (x : DataW H × List MemPlace), DataW.trod enc P w 0 (fun _ => true) true fuel t cs = some x ∧ ∀ n ∈ x.1.weights P t, n ≤ reachBytes
theorem Reads.int {t : TypeId} {k : IntKind} {cs : List Value} (hu : P.underlying t = some (.int k)) (h : Reads P w t cs) : ∃ n, cs = [.int k n] ∧ (Lit.int k n).wf = true := by
 obtain ⟨H, enc, fuel, x, h1, _⟩ := h
 obtain ⟨n, r1, _, r2⟩ := DataW.trod_int hu h1
 exact ⟨n, r1, r2⟩
theorem Reads.bool {t : TypeId} {cs : List Value} (hu : P.underlying t = some .bool) (h : Reads P w t cs) : ∃ b, cs = [.bool b] := by
 obtain ⟨H, enc, fuel, x, h1, _⟩ := h
 obtain ⟨b, r1, _⟩ := DataW.trod_bool hu h1
 exact ⟨b, r1⟩
theorem Reads.string {t : TypeId} {cs : List Value} (hu : P.underlying t = some .string) (h : Reads P w t cs) : ∃ s : ByteArray, cs = [.string s] ∧ s.size ≤ reachBytes := by
 obtain ⟨H, enc, fuel, x, h1, h2⟩ := h
 obtain ⟨s, r1, r2, _⟩ := DataW.trod_string hu h1
 refine ⟨s, r1, ?_⟩
 have := h2 s.data.toList.length (by rw [r2]; simp [DataW.weights])
 simpa using this
theorem mem_weightsAll {H : Type} {e : TypeId} {n : Nat} : ∀ {ds : List (DataW H)} {d : DataW H}, d ∈ ds → n ∈ d.weights P e → n ∈ DataW.weightsAll P e ds
 | a :: r, d, hd, hn => by
  simp only [DataW.weightsAll, List.mem_append]
  rcases List.mem_cons.1 hd with rfl | hd
  ·exact .inl hn
  ·exact .inr (mem_weightsAll hd hn)
theorem cells_of {a : Addr} {n : Nat} {cs : List Value} (h : w.cells? 0 a n = some cs) : cs.length = n ∧ ∀ j v, cs[j]? = some v → w.cell? (a.add j) = some v := by
 obtain ⟨_, h2, h3⟩ := World.cells?_some h
 refine ⟨h2, fun j v hj => ?_⟩
 rw [h3 j (by have := (List.getElem?_eq_some_iff.1 hj).1; omega)]
 exact hj
theorem addr_add (a : Addr) (i j : Nat) : (a.add i).add j = a.add (i + j) := by
 unfold Addr.add
 by_cases hi : i = 0 <;> by_cases hj : j = 0 <;> simp [hi, hj, Nat.add_assoc]
theorem Reads.slice {t e : TypeId} {cs : List Value} (hu : P.underlying t = some (.slice e)) (h : Reads P w t cs) :
  cs = [.slice none 0 0] ∨ ∃ a len cap, cs = [.slice (some a) len cap] ∧ len ≤ cap ∧ cap ≤ maxLen ∧ cap * P.bytesOf e ≤ reachBytes ∧
   ∀ i, i < cap → ∃ cs', cs'.length = P.cellsOf e ∧ (∀ j v, cs'[j]? = some v → w.cell? (a.add (i * P.cellsOf e + j)) = some v) ∧ Reads P w e cs' := by
 obtain ⟨H, enc, fuel, x, h1, h2⟩ := h
 rcases DataW.trod_slice hu h1 with ⟨r, _⟩ | ⟨a, len, cap, elems, rest, n, _, r1, r2, _, hl, hm, hlen, hel, hsp, _⟩
 ·exact .inl r
 ·right
  obtain ⟨hrl, hsp⟩ := hsp rfl
  have hw : ∀ m ∈ (elems.length + rest.length) * P.bytesOf e :: (DataW.weightsAll P e (elems.map (·.1)) ++ DataW.weightsAll P e (rest.map (·.1))), m ≤ reachBytes := by
   intro m hm'
   refine h2 m ?_
   rw [r2]
   simpa [DataW.weights, hu] using hm'
  refine ⟨a, len, cap, r1, hl, hm, ?_, fun i hi => ?_⟩
  ·have := hw _ List.mem_cons_self
   rwa [hlen, hrl, show len + (cap - len) = cap by omega] at this
  ·have key : ∃ y, (w.cells? 0 (a.add (i * P.cellsOf e)) (P.cellsOf e)).bind (DataW.trod enc P w 0 (fun _ => true) true n e) = some y ∧ (y ∈ elems ∨ y ∈ rest) := by
    by_cases hil : i < len
    ·rw [hel i hil, List.getElem?_eq_getElem (by omega)]
     exact ⟨_, rfl, .inl (List.getElem_mem _)⟩
    ·have := hsp (i - len) (by omega)
     rw [show len + (i - len) = i by omega] at this
     rw [this, List.getElem?_eq_getElem (by omega)]
     exact ⟨_, rfl, .inr (List.getElem_mem _)⟩
   obtain ⟨y, hy, hmem⟩ := key
   obtain ⟨cs', hc, ht⟩ := Option.bind_eq_some_iff.1 hy
   obtain ⟨hcl, hcc⟩ := cells_of hc
   refine ⟨cs', hcl, fun j v hj => ?_, H, enc, n, y, ht, fun m hm' => hw m ?_⟩
   ·have := hcc j v hj
    rwa [addr_add] at this
   ·refine List.mem_cons_of_mem _ (List.mem_append.2 ?_)
    rcases hmem with hmem | hmem
    ·exact .inl (mem_weightsAll (List.mem_map_of_mem hmem) hm')
    ·exact .inr (mem_weightsAll (List.mem_map_of_mem hmem) hm')
theorem Reads.struct {t : TypeId} {fs : Array Field} {cs : List Value} (hu : P.underlying t = some (.struct fs)) (h : Reads P w t cs) :
  cs.length = P.cellsOf t ∧ ∀ (i : Nat) (f : Field), fs[i]? = some f → Reads P w f.type ((cs.drop f.offset).take (P.cellsOf f.type)) := by
 obtain ⟨H, enc, fuel, x, h1, h2⟩ := h
 obtain ⟨xs, n, _, r2, r3, r4, r5⟩ := DataW.trod_struct hu h1
 refine ⟨r3, fun i f hf => ?_⟩
 have hi : i < xs.length := by rw [r4]; exact (Array.getElem?_eq_some_iff.1 hf).1
 have := r5 i f hf
 rw [List.getElem?_eq_getElem hi] at this
 refine ⟨H, enc, n, _, this, fun m hm => h2 m ?_⟩
 rw [r2]
 simp only [DataW.weights, hu]
 exact DataW.weights_mem_each (j := i) (t := f.type) (d := xs[i].1) (by rw [List.getElem?_map]; simp [hf]) (by simp [hi]) m hm
theorem Reads.array {t e : TypeId} {n : Nat} {cs : List Value} (hu : P.underlying t = some (.array n e)) (h : Reads P w t cs) :
  cs.length = P.cellsOf t ∧ ∀ i, i < n → Reads P w e ((cs.drop (i * P.cellsOf e)).take (P.cellsOf e)) := by
 obtain ⟨H, enc, fuel, x, h1, h2⟩ := h
 cases fuel with
 | zero => simp [DataW.trod] at h1
 | succ m =>
  unfold DataW.trod at h1
  rw [hu] at h1
  split at h1 <;> simp_all
  obtain ⟨hl, xs, hp, hd⟩ := h1
  intro i hi
  have hg := mapM_some_get hp i i (by simp [hi])
  have hlen := mapM_some_length hp
  have hil : i < xs.length := by rw [hlen]; simpa using hi
  rw [List.getElem?_eq_getElem hil] at hg
  refine ⟨H, enc, m, _, hg, fun q hq => h2 q ?_⟩
  rw [← hd]
  simp only [DataW.weights, hu]
  exact mem_weightsAll (List.mem_map_of_mem (List.getElem_mem hil)) hq
theorem list_of {α : Type} {p : Nat → α → Prop} : ∀ (n : Nat), (∀ i, i < n → ∃ x, p i x) → ∃ xs : List α, xs.length = n ∧ ∀ i x, xs[i]? = some x → p i x
 | 0, _ => ⟨[], rfl, fun i x h => by simp at h⟩
 | n + 1, h => by
  obtain ⟨xs, hl, hx⟩ := list_of n (fun i hi => h i (by omega))
  obtain ⟨x, hp⟩ := h n (by omega)
  refine ⟨xs ++ [x], by simp [hl], fun i y hi => ?_⟩
  rcases Nat.lt_or_ge i xs.length with hlt | hge
  ·rw [List.getElem?_append_left hlt] at hi; exact hx i y hi
  ·rw [List.getElem?_append_right hge] at hi
   have h0 : i - xs.length = 0 := by have := (List.getElem?_eq_some_iff.1 hi).1; simpa using this
   rw [h0] at hi
   obtain rfl : x = y := by simpa using hi
   rwa [show i = n by omega]
theorem addr_of {a : Addr} {v : Value} (h : w.cell? (a.add 0) = some v) : ∃ g o, a = ⟨g, o, none⟩ ∧ g < w.heap.size := by
 obtain ⟨g, o, sp⟩ := a
 have e : (⟨g, o, sp⟩ : Addr).add 0 = ⟨g, o, sp⟩ := by simp [Addr.add]
 rw [e] at h
 obtain rfl := World.cell?_spot h
 exact ⟨g, o, rfl, World.block_lt_of_cell? w _ h⟩
theorem Reads.row {t e : TypeId} {cs : List Value} {α : Type} (f : α → Value) (hu : P.underlying t = some (.slice e)) (hc : P.cellsOf e = 1) (hf : ∀ cs', Reads P w e cs' → ∃ x, cs' = [f x]) (h : Reads P w t cs) :
  ∃ (a : Option Addr) (len cap : Nat) (xs : List α), cs = [.slice a len cap] ∧ xs.length = len ∧ len * P.bytesOf e ≤ reachBytes ∧ len ≤ maxLen ∧ (len = 0 ∨ ∃ g o, a = some ⟨g, o, none⟩ ∧ g < w.heap.size ∧ w.rangeAt g o (xs.map f)) := by
 rcases h.slice hu with rfl | ⟨a, len, cap, rfl, hl, hm, hb, hel⟩
 ·exact ⟨none, 0, 0, [], rfl, rfl, by simp, by decide, .inl rfl⟩
 ·obtain ⟨xs, hxl, hxs⟩ := list_of (p := fun i (x : α) => w.cell? (a.add i) = some (f x)) len (fun i hi => by
   obtain ⟨cs', _, h2, h3⟩ := hel i (by omega)
   obtain ⟨x, rfl⟩ := hf cs' h3
   exact ⟨x, by have := h2 0 _ rfl; rwa [hc, Nat.mul_one, Nat.add_zero] at this⟩)
  refine ⟨some a, len, cap, xs, rfl, hxl, Nat.le_trans (Nat.mul_le_mul_right _ hl) hb, by omega, ?_⟩
  by_cases h0 : len = 0
  ·exact .inl h0
  ·right
   obtain ⟨x0, hx0⟩ : ∃ x, xs[0]? = some x := ⟨xs[0]'(by omega), List.getElem?_eq_getElem _⟩
   obtain ⟨g, o, rfl, hg⟩ := addr_of (hxs 0 x0 hx0)
   refine ⟨g, o, rfl, hg, fun j v hj => ?_⟩
   rw [List.getElem?_map] at hj
   obtain ⟨x, hx, rfl⟩ := Option.map_eq_some_iff.1 hj
   have := hxs j x hx
   rwa [Addr.add_mid] at this
end
def u8s (l : List UInt8) : List Value := l.map fun c => .int .u8 (c.toNat : Int)
theorem u8s_length (l : List UInt8) : (u8s l).length = l.length := by simp [u8s]
theorem u8s_get (l : List UInt8) (k : Nat) (h : k < l.length) : (u8s l)[k]? = some (.int .u8 (l[k].toNat : Int)) := by simp [u8s, h]
theorem u8s_one (l : List UInt8) : ∀ v ∈ u8s l, v.oneCell' = true := by
 intro v hv; obtain ⟨n, _, rfl⟩ := List.mem_map.1 hv; rfl
theorem u8s_append (a b : List UInt8) : u8s (a ++ b) = u8s a ++ u8s b := by simp [u8s]
def BytesIn (w : World) (E : Nat → Prop) (v : Value) (bs : List UInt8) : Prop :=
 ∃ a len cap, v = .slice a len cap ∧ bs.length = len ∧ len ≤ cap ∧ (len = 0 ∨ ∃ g o, a = some ⟨g, o, none⟩ ∧ E g ∧ g < w.heap.size ∧ w.rangeAt g o (u8s bs))
theorem BytesIn.mono {w : World} {E E' : Nat → Prop} {v : Value} {bs : List UInt8} (h : BytesIn w E v bs) (he : ∀ k, E k → E' k) : BytesIn w E' v bs := by
 obtain ⟨a, len, cap, h1, h2, h0, h3⟩ := h
 exact ⟨a, len, cap, h1, h2, h0, h3.imp id fun ⟨g, o, r1, r2, r3⟩ => ⟨g, o, r1, he g r2, r3⟩⟩
theorem BytesIn.fr {w w' : World} {E D : Nat → Prop} {v : Value} {bs : List UInt8} (h : BytesIn w E v bs) (hf : Fr D w w') (hd : ∀ k, E k → k < w.heap.size → ¬ D k) : BytesIn w' E v bs := by
 obtain ⟨a, len, cap, h1, h2, h0, h3⟩ := h
 exact ⟨a, len, cap, h1, h2, h0, h3.imp id fun ⟨g, o, r1, r2, r3, r4⟩ => ⟨g, o, r1, r2, Nat.lt_of_lt_of_le r3 hf.size, hf.range r4 (hd g r2 r3)⟩⟩
theorem BytesIn.no {w w' : World} {E : Nat → Prop} {v : Value} {bs : List UInt8} (h : BytesIn w E v bs) (hf : Fr No w w') : BytesIn w' E v bs := h.fr hf fun _ _ _ e => e
def New (w : World) : Nat → Prop := fun k => w.heap.size ≤ k
def Any : Nat → Prop := fun _ => True
theorem BytesIn.any {w : World} {E : Nat → Prop} {v : Value} {bs : List UInt8} (h : BytesIn w E v bs) : BytesIn w Any v bs := h.mono fun _ _ => trivial
theorem Blk.bytes {w : World} {E : Nat → Prop} {b : Nat} {t : TypeId} {l : List UInt8} {c : Nat} (h : Blk w b t (u8s l)) (he : E b) (hc : l.length ≤ c) : BytesIn w E (.slice (some ⟨b, 0, none⟩) l.length c) l :=
 ⟨_, _, _, rfl, rfl, hc, .inr ⟨b, 0, rfl, he, h.lt, h.range 0 _ (by rw [List.drop_zero, List.take_length])⟩⟩
section
variable {P : Program} {w : World}
theorem u8_of {t : TypeId} {cs : List Value} (hu : P.underlying t = some (.int .u8)) (h : Reads P w t cs) : ∃ c : UInt8, cs = [.int .u8 (c.toNat : Int)] := by
 obtain ⟨n, rfl, hw⟩ := h.int hu
 have hb : 0 ≤ n ∧ n ≤ 255 := by simpa [Lit.wf, IntKind.min, IntKind.max, IntKind.signed, IntKind.bits] using hw
 refine ⟨UInt8.ofNat n.toNat, ?_⟩
 rw [UInt8.toNat_ofNat', Nat.mod_eq_of_lt (by omega), Int.toNat_of_nonneg hb.1]
theorem Reads.u8s {t e : TypeId} {cs : List Value} (hu : P.underlying t = some (.slice e)) (he : P.underlying e = some (.int .u8)) (hc : P.cellsOf e = 1) (hb : P.bytesOf e = 1) (h : Reads P w t cs) :
  ∃ v bs, cs = [v] ∧ BytesIn w (fun k => k < w.heap.size) v bs ∧ bs.length ≤ 140737488351232 := by
 obtain ⟨a, len, cap, xs, rfl, hl, hbb, _, hr⟩ := h.row (fun c : UInt8 => Value.int .u8 (c.toNat : Int)) hu hc (fun cs' h' => u8_of he h')
 rw [hb, show reachBytes = 140737488351232 from rfl, Nat.mul_one] at hbb
 have hle : len ≤ cap := by
  rcases h.slice hu with r | ⟨a', len', cap', r, hle, _⟩
  ·simp only [List.cons.injEq, Value.slice.injEq] at r
   omega
  ·simp only [List.cons.injEq, Value.slice.injEq] at r
   omega
 exact ⟨_, xs, rfl, ⟨a, len, cap, rfl, hl, hle, hr.imp id fun ⟨g, o, h1, h2, h3⟩ => ⟨g, o, h1, h2, h2, h3⟩⟩, by omega⟩
end
end Go.Proofs.YtgbiicipkbpmeaaGreatDoor.K
namespace Go.Proofs.YtgbiicipkbpmeaaGreatDoor.bulks
set_option maxRecDepth 100000
open Go.RowKit K
theorem length_le {H : Type} : ∀ l : List (DataW H), l.length ≤ Rows.uptoBulkAll l
 | [] => Nat.zero_le _
 | x :: r => by
  have h0 : 1 ≤ Rows.uptoBulk x := by
   cases x with
   | lit l => cases l <;> simp [Rows.uptoBulk]
   | nil => simp [Rows.uptoBulk]
   | ptr d => simp [Rows.uptoBulk]
   | slice elems spare => simp [Rows.uptoBulk]
   | agg parts => simp [Rows.uptoBulk]
   | iface t d => simp [Rows.uptoBulk]
   | map entries => simp [Rows.uptoBulk]
   | held h => simp [Rows.uptoBulk]
  have := length_le r
  simp only [Rows.uptoBulkAll, List.length_cons]; omega
theorem bound {H : Type} {l : List (DataW H)} (hk : Rows.uptoSmall H l = true) : Rows.uptoBulkAll l ≤ 1048576 := of_decide_eq_true hk
end Go.Proofs.YtgbiicipkbpmeaaGreatDoor.bulks
namespace Go.Proofs.YtgbiicipkbpmeaaGreatDoor.BE
set_option maxRecDepth 100000
abbrev B := List UInt8
abbrev S := ByteArray
def sb (l : B) : S := ⟨l.toArray⟩
theorem sb_size (l : B) : (sb l).size = l.length := by show l.toArray.size = _; simp
theorem sb_list (l : B) : (sb l).data.toList = l := by simp [sb]
theorem sb_of (s : S) : sb s.data.toList = s := by simp [sb]
theorem s_ext {a b : S} (h : a.data.toList = b.data.toList) : a = b := ByteArray.ext (Array.toList_inj.1 h)
theorem sb_append (a b : B) : sb a ++ sb b = sb (a ++ b) := s_ext (by simp [sb])
theorem ext_sb (l : B) (a b : Nat) : (sb l).extract a b = sb ((l.drop a).take (b - a)) := s_ext (by
 rw [ByteArray.data_extract]
 simp [sb, List.extract_eq_take_drop])
inductive Nd where
 | mk (tag : Int) (body : B) (kids : List Nd)
def Nd.tag : Nd → Int | .mk t _ _ => t
def Nd.body : Nd → B | .mk _ b _ => b
def Nd.kids : Nd → List Nd | .mk _ _ k => k
def tagB (t : Int) : Bool := decide (0 ≤ t) && decide (t ≤ 255) && decide (t % 32 ≠ 31)
def conB (t : Int) : Bool := decide (t / 32 % 2 = 1)
def lenB (c : Nat) : B := if c < 128 then [UInt8.ofNat c] else if c < 256 then [129, UInt8.ofNat c] else [130, UInt8.ofNat (c / 256), UInt8.ofNat (c % 256)]
def enc : Nat → Nd → B
 | 0, _ => []
 | m + 1, n => UInt8.ofNat n.tag.toNat :: (lenB (n.body ++ (n.kids.map (enc m)).flatten).length ++ (n.body ++ (n.kids.map (enc m)).flatten))
def hdS : B → Except Nat (Nat × Nat × Nat)
 | [] => .error 92
 | t :: r => if tagB t.toNat = false then .error 90 else match r with
  | [] => .error 92
  | l :: q => if l.toNat < 128 then .ok (t.toNat, l.toNat, 2)
   else if l.toNat = 129 then match q with
    | [] => .error 92
    | a :: _ => if a.toNat < 128 then .error 90 else .ok (t.toNat, a.toNat, 3)
   else if l.toNat = 130 then match q with
    | a :: b :: _ => if 256 * a.toNat + b.toNat < 256 then .error 90 else if 4000 < 256 * a.toNat + b.toNat then .error 2 else .ok (t.toNat, 256 * a.toNat + b.toNat, 4)
    | _ => .error 92
   else .error 90
def kidsG (f : B → Except Nat (Nd × Nat)) : Nat → B → Except Nat (List Nd)
 | 0, s => if s = [] then .ok [] else .error 0
 | k + 1, s => if s = [] then .ok [] else match f s with
  | .error e => .error e
  | .ok (n, u) => match kidsG f k (s.drop u) with
   | .error e => .error e
   | .ok ns => .ok (n :: ns)
def rd : Nat → B → Except Nat (Nd × Nat)
 | 0, _ => .error 91
 | m + 1, s => match hdS s with
  | .error e => .error e
  | .ok (t, c, h) => if s.length < h + c then .error 92
   else if conB t then match kidsG (rd m) ((s.drop h).take c).length ((s.drop h).take c) with
    | .error e => .error (if e = 92 then 90 else e)
    | .ok ks => .ok (.mk t [] ks, h + c)
   else .ok (.mk t ((s.drop h).take c) [], h + c)
theorem lt256 (b : UInt8) : b.toNat < 256 := UInt8.toNat_lt b
theorem ofNat_toNat (b : UInt8) : UInt8.ofNat b.toNat = b := by simp
end Go.Proofs.YtgbiicipkbpmeaaGreatDoor.BE
namespace Go.Proofs.YtgbiicipkbpmeaaGreatDoor.K
set_option maxRecDepth 100000
open Go.RowKit
section
variable {P : Program} {ops : Array Oper} {Q : Exit → Act → World → Prop} {md : Region.Mode}
abbrev Facts := List (Nat × (World → Prop))
def Facts.hold (R : Facts) (w : World) : Prop := ∀ p ∈ R, p.2 w
def Facts.past (md : Region.Mode) (ops : Array Oper) (R : Facts) (j : Nat) : Facts := R.filter fun p => p.1 != j && !Region.waitsFor md ops j p.1
def wpD (P : Program) (md : Region.Mode) (ops : Array Oper) (Q : Exit → Act → World → Prop) : Facts → Nat → Array Bool → Act → World → Prop
 | _, 0, listed, a, w => Region.ready md ops listed = [] ∧ Q .normal a w
 | R, fuel + 1, listed, a, w =>
  (Region.ready md ops listed = [] → Q .normal a w) ∧
  ∀ j ∈ Region.ready md ops listed, wpOp P ops Q j (fun a' w' => (R.past md ops j).hold w' ∧ wpD P md ops Q (R.past md ops j) fuel (listed.setIfInBounds j true) a' w') a w
theorem wpD_any : ∀ (fuel : Nat) (R : Facts) (listed : Array Bool) (a : Act) (w : World), wpD P md ops Q R fuel listed a w → wpAny P md ops Q fuel listed a w
 | 0, _, _, _, _, h => h
 | fuel + 1, _, _, _, _, h => ⟨h.1, fun i hi => wpOp_mono (fun a' w' h' => wpD_any fuel _ _ a' w' h'.2) (h.2 i hi)⟩
theorem past_sub {R R' : Facts} (h : ∀ p ∈ R', p ∈ R) (j : Nat) : ∀ p ∈ R'.past md ops j, p ∈ R.past md ops j := fun p hp => by
 obtain ⟨h1, h2⟩ := List.mem_filter.1 hp
 exact List.mem_filter.2 ⟨h p h1, h2⟩
theorem wpD_sub : ∀ (fuel : Nat) (R R' : Facts) (listed : Array Bool) (a : Act) (w : World), (∀ p ∈ R', p ∈ R) → wpD P md ops Q R fuel listed a w → wpD P md ops Q R' fuel listed a w
 | 0, _, _, _, _, _, _, h => h
 | fuel + 1, _, _, _, _, _, hs, h => ⟨h.1, fun j hj => wpOp_mono (fun a' w' h' => ⟨fun p hp => h'.1 p (past_sub hs j p hp), wpD_sub fuel _ _ _ a' w' (past_sub hs j) h'.2⟩) (h.2 j hj)⟩
theorem wpD_first {i : Nat} {oi : Oper} {v : Value} {S : World → Prop} (hi : ops[i]? = some oi) (hsel : ∀ (j : Nat) (o : Oper) cs b, ops[j]? = some o → o.op ≠ .select cs b)
  (hQ : ∀ c a w, Q (.panic c) (a.put oi.dst v) w → Q (.panic c) a w) :
  ∀ (fuel : Nat) (R : Facts) (listed : Array Bool) (a : Act) (w : World), ((i, S) ∈ R ∨ ∀ w, S w) →
   (∀ j oj, ops[j]? = some oj → j ≠ i → listed.getD j true = false → (∀ e ∈ oj.after, Region.binds md e = true → e.on ≠ i) → oi.apart ops oj = true) →
   i ∈ Region.ready md ops listed → YieldsIf P ops S oi v a → R.hold w →
   wpD P md ops Q R fuel (listed.setIfInBounds i true) (a.put oi.dst v) w → wpD P md ops Q R (fuel + 1) listed a w := by
 intro fuel
 induction fuel with
 | zero =>
  intro R listed a w hR _ hr hy hS H
  refine ⟨fun h => (by rw [h] at hr; cases hr), fun j hj => ?_⟩
  by_cases hji : j = i
  ·subst hji
   exact hy.wpOp hi (hR.elim (fun h => hS _ h) (fun h => h w)) ⟨fun p hp => hS p (List.mem_filter.1 hp).1, H⟩
  ·have := ready_mono hj hji
   rw [H.1] at this
   cases this
 | succ fuel ih =>
  intro R listed a w hR hfree hr hy hS H
  refine ⟨fun h => (by rw [h] at hr; cases hr), fun j hj => ?_⟩
  by_cases hji : j = i
  ·subst hji
   exact hy.wpOp hi (hR.elim (fun h => hS _ h) (fun h => h w)) ⟨fun p hp => hS p (List.mem_filter.1 hp).1, wpD_sub _ _ _ _ _ _ (fun p hp => (List.mem_filter.1 hp).1) H⟩
  ·have h1 := H.2 j (ready_mono hj hji)
   obtain ⟨hjun, oj, hoj, hall⟩ := mem_ready.1 hj
   have hnot : ∀ e ∈ oj.after, Region.binds md e = true → e.on ≠ i := fun e he hb heq => by
    have h1 := hall e he hb
    have h0 := (mem_ready.1 hr).1
    rw [heq] at h1
    rcases Nat.lt_or_ge i listed.size with h' | h'
    ·simp [h'] at h0 h1; rw [h0] at h1; cases h1
    ·simp [Array.getElem?_eq_none h'] at h1
   have hw : Region.waitsFor md ops j i = false := by
    cases hc : Region.waitsFor md ops j i with
    | false => rfl
    | true =>
     obtain ⟨oj', hoj', e, he, hb, hon⟩ := Region.waitsFor_spec hc
     rw [hoj] at hoj'
     cases hoj'
     exact absurd hon (hnot e he hb)
   have hR' : (i, S) ∈ R.past md ops j ∨ ∀ w, S w := hR.imp (fun h => List.mem_filter.2 ⟨h, by simp [hw, Ne.symm hji]⟩) id
   have h2 := wpOp_putIf hoj (hfree j oj hoj hji hjun hnot) (fun cs b => hsel i oi cs b hi) (fun cs b => hsel j oj cs b hoj) hQ hy h1
   have hfree' : ∀ k ok, ops[k]? = some ok → k ≠ i → (listed.setIfInBounds j true).getD k true = false →
     (∀ e ∈ ok.after, Region.binds md e = true → e.on ≠ i) → oi.apart ops ok = true := fun k ok hk hki hun hno => by
    refine hfree k ok hk hki ?_ hno
    by_cases hjk : j = k
    ·subst hjk; exact hjun
    ·rw [getD_set_ne true hjk] at hun; exact hun
   refine wpOp_mono (fun a' w' h3 => ⟨h3.2.1, ih _ (listed.setIfInBounds j true) a' w' hR' hfree' (ready_mono hr (Ne.symm hji)) h3.1 h3.2.1 ?_⟩) h2
   rw [Array.setIfInBounds_comm _ _ hji]
   exact h3.2.2
theorem at_drop {i : Nat} {oi : Oper} (h : (ops.toList.drop i).head? = some oi) : ops[i]? = some oi := by
 rw [List.head?_drop] at h
 simpa using h
theorem wpD_region {id : Nat} {a : Act} {w : World} {R : Facts} (_hold : R.hold w.drew) (hm : P.follows .mixedOrders = true) (n : Nat) (hn : ops.size = n)
  (h : wpD P .any ops Q R n (Array.replicate n false) a w.drew) : (Code.region id ops true).wp P Q a w := by
 subst hn
 exact wp_region_any hm (wpD_any _ _ _ _ _ h)
theorem wpD_take (i : Nat) {oi : Oper} {v : Value} (S : World → Prop) {R : Facts} {fuel : Nat} {listed : Array Bool} {a : Act} {w : World} (hi : (ops.toList.drop i).head? = some oi)
  (hs : Region.noSelect ops = true) (hf : Region.free md ops listed i = true) (hr : (Region.ready md ops listed).contains i = true) (hQ : ∀ c a w, Q (.panic c) (a.put oi.dst v) w → Q (.panic c) a w)
  (hR : (i, S) ∈ R) (hg : Region.wanted oi (yielded ops a.tmps) = true) (hy : ∀ w, S w → (execOp a.eval oi).run P w = .ok (.value v) w) (hS : R.hold w)
  (h : wpD P md ops Q R fuel (listed.setIfInBounds i true) (a.put oi.dst v) w) : wpD P md ops Q R (fuel + 1) listed a w :=
 wpD_first (at_drop hi) (Region.noSelect_spec hs) hQ fuel R listed a w (.inl hR) (Region.free_spec (at_drop hi) hf) (by simpa using hr) (.inl ⟨hg, hy⟩) hS h
theorem wpD_plain (i : Nat) {oi : Oper} {v : Value} {R : Facts} {fuel : Nat} {listed : Array Bool} {a : Act} {w : World} (hi : (ops.toList.drop i).head? = some oi)
  (hs : Region.noSelect ops = true) (hf : Region.free md ops listed i = true) (hr : (Region.ready md ops listed).contains i = true) (hQ : ∀ c a w, Q (.panic c) (a.put oi.dst v) w → Q (.panic c) a w)
  (hg : Region.wanted oi (yielded ops a.tmps) = true) (hy : ∀ w, (execOp a.eval oi).run P w = .ok (.value v) w) (hS : R.hold w)
  (h : wpD P md ops Q R fuel (listed.setIfInBounds i true) (a.put oi.dst v) w) : wpD P md ops Q R (fuel + 1) listed a w :=
 wpD_first (S := fun _ => True) (at_drop hi) (Region.noSelect_spec hs) hQ fuel R listed a w (.inr fun _ => trivial) (Region.free_spec (at_drop hi) hf) (by simpa using hr) (.inl ⟨hg, fun w _ => hy w⟩) hS h
theorem wpD_only (i : Nat) {oi : Oper} {R : Facts} (R' : Facts) {fuel : Nat} {listed : Array Bool} {a : Act} {w : World} (hi : (ops.toList.drop i).head? = some oi) (hr : Region.ready md ops listed = [i]) (hR : R.past md ops i = R')
  (hg : Region.wanted oi (yielded ops a.tmps) = true)
  (h : ∀ K : Act → World → Prop, (∀ a' w', R'.hold w' → wpD P md ops Q R' fuel (listed.setIfInBounds i true) a' w' → K a' w') → oi.wp P a w K Q) : wpD P md ops Q R (fuel + 1) listed a w := by
 refine ⟨fun h0 => (by rw [hr] at h0; cases h0), fun j hj => ?_⟩
 rw [hr] at hj
 obtain rfl := List.mem_singleton.1 hj
 unfold wpOp
 simp only [at_drop hi, hg, if_true]
 rw [hR]
 exact .inl (h _ fun a' w' h1 h2 => ⟨h1, h2⟩)
theorem pl (i : Nat) {oi : Oper} {v : Value} {R : Facts} {fuel : Nat} {listed : Array Bool} {a : Act} {w : World} (hi : (ops.toList.drop i).head? = some oi) (hy : ∀ w, (execOp a.eval oi).run P w = .ok (.value v) w)
  (h : wpD P md ops Q R fuel (listed.setIfInBounds i true) (a.put oi.dst v) w) (hs : Region.noSelect ops = true := by kernel_rfl) (hf : Region.free md ops listed i = true := by kernel_rfl) (hr : (Region.ready md ops listed).contains i = true := by kernel_rfl)
  (hQ : ∀ c a w, Q (.panic c) (a.put oi.dst v) w → Q (.panic c) a w := by exact fun _ _ _ h => h) (hg : Region.wanted oi (yielded ops a.tmps) = true := by rfl) (hS : R.hold w := by assumption) : wpD P md ops Q R (fuel + 1) listed a w :=
 wpD_plain i hi hs hf hr hQ hg hy hS h
theorem tk (i : Nat) {oi : Oper} {v : Value} (S : World → Prop) {R : Facts} {fuel : Nat} {listed : Array Bool} {a : Act} {w : World} (hi : (ops.toList.drop i).head? = some oi) (hR : (i, S) ∈ R) (hy : ∀ w, S w → (execOp a.eval oi).run P w = .ok (.value v) w)
  (h : wpD P md ops Q R fuel (listed.setIfInBounds i true) (a.put oi.dst v) w) (hs : Region.noSelect ops = true := by kernel_rfl) (hf : Region.free md ops listed i = true := by kernel_rfl) (hr : (Region.ready md ops listed).contains i = true := by kernel_rfl)
  (hQ : ∀ c a w, Q (.panic c) (a.put oi.dst v) w → Q (.panic c) a w := by exact fun _ _ _ h => h) (hg : Region.wanted oi (yielded ops a.tmps) = true := by rfl) (hS : R.hold w := by assumption) : wpD P md ops Q R (fuel + 1) listed a w :=
 wpD_take i S hi hs hf hr hQ hR hg hy hS h
theorem on (i : Nat) {oi : Oper} {R : Facts} (R' : Facts) {fuel : Nat} {listed : Array Bool} {a : Act} {w : World} (hi : (ops.toList.drop i).head? = some oi)
  (h : ∀ K : Act → World → Prop, (∀ a' w', R'.hold w' → wpD P md ops Q R' fuel (listed.setIfInBounds i true) a' w' → K a' w') → oi.wp P a w K Q) (hr : Region.ready md ops listed = [i] := by kernel_rfl) (hR : R.past md ops i = R' := by kernel_rfl)
  (hg : Region.wanted oi (yielded ops a.tmps) = true := by rfl) : wpD P md ops Q R (fuel + 1) listed a w := wpD_only i R' hi hr hR hg h
theorem m0 {α : Type} {a : α} {l : List α} : a ∈ a :: l := List.mem_cons_self
theorem m1 {α : Type} {a b : α} {l : List α} : a ∈ b :: a :: l := List.mem_cons_of_mem _ m0
theorem m2 {α : Type} {a b c : α} {l : List α} : a ∈ b :: c :: a :: l := List.mem_cons_of_mem _ m1
theorem m3 {α : Type} {a b c d : α} {l : List α} : a ∈ b :: c :: d :: a :: l := List.mem_cons_of_mem _ m2
theorem wpD_done {R : Facts} {listed : Array Bool} {a : Act} {w : World} (hr : Region.ready md ops listed = []) (h : Q .normal a w) : ∀ fuel, wpD P md ops Q R fuel listed a w
 | 0 => ⟨hr, h⟩
 | _ + 1 => ⟨fun _ => h, by rw [hr]; simp⟩
theorem Facts.nil_hold (w : World) : Facts.hold [] w := fun _ h => by cases h
theorem Facts.cons_hold {k : Nat} {S : World → Prop} {R : Facts} {w : World} (h : S w) (hr : Facts.hold R w) : Facts.hold ((k, S) :: R) w := fun p hp => by
 rcases List.mem_cons.1 hp with rfl | hp
 ·exact h
 ·exact hr p hp
variable {op : Oper} {a : Act} {w : World} {K : Act → World → Prop}
theorem exec_load (ty : TypeId) (x : Operand) (ho : op.op = .load ty x) (b o : Nat) (hx : a.eval x = .pointer (some ⟨b, o, none⟩)) (cs : List Value) (d : TypeDesc)
  (hu : P.underlying ty = some d) (hd : d.isRow = true) (hi : (P.info? ty).map (·.size) = some cs.length) : ∀ w : World, w.rangeAt b o cs → (execOp a.eval op).run P w = .ok (.value (.agg cs.toArray)) w := by
 intro w hc
 unfold execOp
 simp only [ho, hx, Instr.loadAt, Instr.sureAddr, Sem.run_bind, Sem.run_pure, Result.andThen_ok, run_loadVar_mid w b o ty cs d hc hu hd hi]
theorem wp_storeB (ty : TypeId) (x y : Operand) (ho : op.op = .store ty x y) (b o : Nat) (vs : List Value) (hx : a.eval x = .pointer (some ⟨b, o, none⟩)) (hy : a.eval y = .agg vs.toArray)
  (t : TypeId) (cs : List Value) (hB : Blk w b t cs) (hle : o + vs.length ≤ cs.length) (hi : (P.info? ty).map (·.size) = some vs.length) (h1 : ∀ v ∈ vs, v.oneCell' = true)
  (h : ∀ w', Hid (Blk w' b t (spl cs o vs)) → Hid (Fr (fun k => k = b) w w') → Hid (w'.heap.size = w.heap.size) → K (a.put op.dst undef) w') : op.wp P a w K Q :=
 wp_store_mid ty x y ho b o vs.toArray hx hy (by simpa using hB.there o vs.length hle) (by simpa using hi) (by simpa using h1)
  (h _ (hid (by simpa using hB.sets vs o hle)) (hid (by simpa using (Fr.refl (fun k => k = b) w).setCells b o vs.toArray.toList (.inl rfl))) (hid (by simp)))
theorem run_buildAll (t e : TypeId) (vs : List Value) (i : TypeInfo) (z : Value) (hu : P.underlying t = some (.slice e)) (hi : P.info? e = some i) (hz : i.zero = some z) (hs0 : 0 < i.size) (hs1 : vs.length * i.size ≤ 16777216) (hv0 : 0 < vs.length)
  (hv : ∀ v ∈ vs, v.cells.size = i.size) (w : World) : (Instr.buildSlice t vs.length ((vs.zipIdx 0).map fun x => (x.2, x.1)).toArray).run P w =
   .ok (.slice (some ⟨w.heap.size, 0, none⟩) vs.length vs.length) (w.alloc (.cells (vs.flatMap fun v => v.cells.toList).toArray e)) :=
 run_buildSlice w t e vs.length _ _ i z hu hi hz (by omega) (by have := Nat.mul_pos hv0 hs0; omega) (by simpa using Great.fill_whole hs0 vs _ hv (by simp))
theorem wp_buildOne (t e : TypeId) (x : Operand) (ho : op.op = .buildSlice t 1 #[(0, x)]) (i : TypeInfo) (z : Value) (hu : P.underlying t = some (.slice e)) (hi : P.info? e = some i) (hz : i.zero = some z) (hs0 : 0 < i.size) (hs1 : i.size ≤ 16777216)
  (v : Value) (cs : List Value) (hv : a.eval x = v) (hcs : v.cells = cs.toArray) (hl : cs.length = i.size)
  (h : ∀ w', Hid (Blk w' w.heap.size e cs) → Hid (Fr No w w') → Hid (w'.heap.size = w.heap.size + 1) → K (a.put op.dst (.slice (some ⟨w.heap.size, 0, none⟩) 1 1)) w') : op.wp P a w K Q := by
 have hrun := run_buildAll (P := P) t e [v] i z hu hi hz hs0 (by simpa using hs1) (by simp) (by simp [hcs, hl]) w
 simp only [List.zipIdx_cons, List.zipIdx_nil, List.map_cons, List.map_nil, List.length_singleton, List.flatMap_cons, List.flatMap_nil, List.append_nil, hcs] at hrun
 unfold Oper.wp
 simp [execOp, ho, hv, hrun, Result.andThen]
 exact h _ (hid (Blk.new _ _ _)) (hid ((Fr.refl _ _).alloc _)) (hid (by simp))
end
theorem wpL_buildOne {P : Program} {ops : Array Oper} {rest : List Oper} {op : Oper} {a : Act} {w : World} {Q : Exit → Act → World → Prop} (hgd : op.guard = none) (t e : TypeId) (x : Operand) (ho : op.op = .buildSlice t 1 #[(0, x)]) (i : TypeInfo) (z : Value)
  (hu : P.underlying t = some (.slice e)) (hi : P.info? e = some i) (hz : i.zero = some z) (hs0 : 0 < i.size) (hs1 : i.size ≤ 16777216)
  (v : Value) (cs : List Value) (hv : a.eval x = v) (hcs : v.cells = cs.toArray) (hl : cs.length = i.size)
  (h : ∀ w', Hid (Blk w' w.heap.size e cs) → Hid (Fr No w w') → Hid (w'.heap.size = w.heap.size + 1) → wpList P ops Q rest (a.put op.dst (.slice (some ⟨w.heap.size, 0, none⟩) 1 1)) w') : wpList P ops Q (op :: rest) a w :=
 wpList_plain hgd fun _ hK => wp_buildOne t e x ho i z hu hi hz hs0 hs1 v cs hv hcs hl fun w' h1 h2 h3 => hK _ _ (h w' h1 h2 h3)
end Go.Proofs.YtgbiicipkbpmeaaGreatDoor.K
