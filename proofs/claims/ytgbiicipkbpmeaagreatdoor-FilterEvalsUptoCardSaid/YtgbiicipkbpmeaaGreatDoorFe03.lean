/-
  Part 3 of the proof: ScX, ScA, ScRow.
-/
import Derived.Test.YtgbiicipkbpmeaaGreatDoorFe01
import Derived.Test.YtgbiicipkbpmeaaGreatDoorFe02
import Derived.Maps.OwnSet
import Derived.Shelf.Strconv.ErrVarAll
import Derived.Shelf.Strconv.Itoa3
import Derived.Lib.LaidTab
import Derived.Test.YtgbiicipkbpmeaaGreatDoorChecked
set_option linter.unusedSimpArgs false
set_option linter.unusedVariables false
namespace Go.Proofs.YtgbiicipkbpmeaaGreatDoor.SC
set_option maxRecDepth 100000
open Go.RowKit K BE DN
def StC (x : B) (cs : List Value) : Prop := cs = [.string (sb x)] ∧ Sz x
def LsIn (S : Nat → Prop) (w : World) (v : Value) (l : List B) : Prop := Sl 1 StC S w v l
def tyV (t : Ty) : List Value := [.string (sb t.nm), .int .i64 t.syn, .bool t.one, .bool t.shut, .bool t.sys, .bool t.share]
def TyC (t : Ty) (cs : List Value) : Prop := cs = tyV t ∧ Sz t.nm
def TysIn (S : Nat → Prop) (w : World) (v : Value) (l : List Ty) : Prop := Sl 6 TyC S w v l
def LB (c : Cl) : Prop := c.must.length * 16 ≤ 140737488351232 ∧ c.may.length * 16 ≤ 140737488351232
def ClC (S : Nat → Prop) (w : World) (c : Cl) (cs : List Value) : Prop := ∃ v1 v2, cs = [.string (sb c.nm), .int .i64 c.kind, .string (sb c.sup), v1, v2] ∧ Sz c.nm ∧ Sz c.sup ∧ LsIn S w v1 c.must ∧ LsIn S w v2 c.may ∧ LB c
def ClsIn (S : Nat → Prop) (w : World) (v : Value) (l : List Cl) : Prop := Sl 5 (ClC S w) S w v l
def AtC (S : Nat → Prop) (w : World) (a : Atr) (cs : List Value) : Prop := ∃ v, cs = [.string (sb a.1), v] ∧ Sz a.1 ∧ LsIn S w v a.2
def EnIn (S : Nat → Prop) (w : World) (v : Value) (en : Ent) : Prop := Sl 2 (AtC S w) S w v en
section
variable {S S' D : Nat → Prop} {w w' : World} {v : Value}
theorem LsIn.fr {l : List B} (h : LsIn S w v l) (hf : Fr D w w') (hd : ∀ i, S i → i < w.heap.size → ¬ D i) : LsIn S w' v l := Sl.fr h hf hd fun _ _ _ h => h
theorem TysIn.fr {l : List Ty} (h : TysIn S w v l) (hf : Fr D w w') (hd : ∀ i, S i → i < w.heap.size → ¬ D i) : TysIn S w' v l := Sl.fr h hf hd fun _ _ _ h => h
theorem ClC.fr {c : Cl} {cs : List Value} (h : ClC S w c cs) (hf : Fr D w w') (hd : ∀ i, S i → i < w.heap.size → ¬ D i) : ClC S w' c cs := by
 obtain ⟨v1, v2, e, h1, h2, h3, h4, h5⟩ := h
 exact ⟨v1, v2, e, h1, h2, h3.fr hf hd, h4.fr hf hd, h5⟩
theorem ClsIn.fr {l : List Cl} (h : ClsIn S w v l) (hf : Fr D w w') (hd : ∀ i, S i → i < w.heap.size → ¬ D i) : ClsIn S w' v l := Sl.fr h hf hd fun _ _ _ h => h.fr hf hd
theorem AtC.fr {a : Atr} {cs : List Value} (h : AtC S w a cs) (hf : Fr D w w') (hd : ∀ i, S i → i < w.heap.size → ¬ D i) : AtC S w' a cs := by
 obtain ⟨v, e, h1, h2⟩ := h
 exact ⟨v, e, h1, h2.fr hf hd⟩
theorem EnIn.fr {l : Ent} (h : EnIn S w v l) (hf : Fr D w w') (hd : ∀ i, S i → i < w.heap.size → ¬ D i) : EnIn S w' v l := Sl.fr h hf hd fun _ _ _ h => h.fr hf hd
theorem Sl.mono {α : Type} {k : Nat} {p p' : α → List Value → Prop} {xs : List α} (h : Sl k p S w v xs) (hs : ∀ i, S i → i < w.heap.size → S' i) (hp : ∀ x c, x ∈ xs → p x c → p' x c) : Sl k p' S' w v xs := by
 obtain ⟨a, cap, h1, h2, h3, h4⟩ := h
 exact ⟨a, cap, h1, h2, h3, h4.imp id fun ⟨g, o, L, e, hS, h5, h6, h7, h8, h9⟩ => ⟨g, o, L, e, hs g hS h5, h5, h6, h7, h8, fun j x c hx hc => hp x c (List.mem_of_getElem? hx) (h9 j x c hx hc)⟩⟩
theorem LsIn.mono {l : List B} (h : LsIn S w v l) (hs : ∀ i, S i → i < w.heap.size → S' i) : LsIn S' w v l := Sl.mono h hs fun _ _ _ h => h
theorem TysIn.mono {l : List Ty} (h : TysIn S w v l) (hs : ∀ i, S i → i < w.heap.size → S' i) : TysIn S' w v l := Sl.mono h hs fun _ _ _ h => h
theorem ClC.mono {c : Cl} {cs : List Value} (h : ClC S w c cs) (hs : ∀ i, S i → i < w.heap.size → S' i) : ClC S' w c cs := by
 obtain ⟨v1, v2, e, h1, h2, h3, h4, h5⟩ := h
 exact ⟨v1, v2, e, h1, h2, h3.mono hs, h4.mono hs, h5⟩
theorem ClsIn.mono {l : List Cl} (h : ClsIn S w v l) (hs : ∀ i, S i → i < w.heap.size → S' i) : ClsIn S' w v l := Sl.mono h hs fun _ _ _ h => h.mono hs
theorem AtC.mono {a : Atr} {cs : List Value} (h : AtC S w a cs) (hs : ∀ i, S i → i < w.heap.size → S' i) : AtC S' w a cs := by
 obtain ⟨v, e, h1, h2⟩ := h
 exact ⟨v, e, h1, h2.mono hs⟩
theorem EnIn.mono {l : Ent} (h : EnIn S w v l) (hs : ∀ i, S i → i < w.heap.size → S' i) : EnIn S' w v l := Sl.mono h hs fun _ _ _ h => h.mono hs
end
theorem own_sl {α : Type} {k base : Nat} {p : α → List Value → Prop} {w : World} {e : TypeId} {v : Value} {n : Nat} {cells : List Value} {xs : List α} (h : w.ownsRow base e k v n cells) (L : List (List Value)) (hL : L.flatten = cells) (hn : xs.length = n) (hLx : L.length = n) (hk : ∀ c ∈ L, c.length = k) (hp : ∀ (j : Nat) (x : α) (c : List Value), xs[j]? = some x → L[j]? = some c → p x c) (hb : n ≤ 140737488351232) :
  Sl k p (fun i => base ≤ i) w v xs := by
 rcases h.2 with ⟨rfl, rfl⟩ | ⟨g, cap, cur, rfl, hbg, hg, h1, h2, h3, h4⟩
 ·obtain rfl : xs = [] := List.eq_nil_of_length_eq_zero hn
  exact ⟨none, 0, rfl, Nat.le_refl _, by simp, .inl rfl⟩
 ·refine ⟨_, cap, by rw [hn], by rw [hn]; exact h1, by rw [hn]; exact hb, ?_⟩
  by_cases hx : xs = []
  ·exact .inl hx
  ·right
   refine ⟨g, 0, L, rfl, hbg, (Array.getElem?_eq_some_iff.1 hg).1, ?_, by rw [hLx, hn], hk, hp⟩
   intro j u hj
   rw [hL] at hj
   have := h.cells (g := g) rfl j u hj
   rwa [Addr.add_mid] at this
def RV : Value → Option (DataW Unit × List MemPlace)
 | .int .i64 n => some (.lit (.int .i64 n), [])
 | _ => none
theorem RV_mk (n : Int) : RV (.int .i64 n) = some (.lit (.int .i64 n), []) := rfl
theorem RV_inv {v : Value} {n : Int} {ps : List MemPlace} (h : RV v = some (.lit (.int .i64 n), ps)) : v = .int .i64 n := by
 unfold RV at h
 split at h
 ·cases h; rfl
 ·cases h
abbrev kstr : Go.Maps.Keyed Tryz.prog 9 := Go.Maps.string_keyed Tryz.underlying9
def MpI (w : World) (b n : Nat) (f : B → Option Int) : Prop :=
 ∃ D, w.ownsMap Tryz.prog 9 RV b n D ∧ ∀ s : B, Sz s → Go.Maps.has D (.string s) = (f s).isSome ∧ ∀ p, f s = some p → D.atKey (.string s) (.lit (.int .i64 0)) = .lit (.int .i64 p)
def updM (f : B → Option Int) (s : B) (p : Int) : B → Option Int := fun t => if t = s then some p else f t
theorem MpI.lt {w : World} {b n : Nat} {f : B → Option Int} (h : MpI w b n f) : b < w.heap.size := h.elim fun _ h => h.1.lt
theorem MpI.fr {D : Nat → Prop} {w w' : World} {b n : Nat} {f : B → Option Int} (h : MpI w b n f) (hf : Fr D w w') (hn : ¬ D b) : MpI w' b n f := by
 obtain ⟨E, ⟨es, clock, hb, r⟩, h2⟩ := h
 exact ⟨E, ⟨es, clock, (hf.block b (Array.getElem?_eq_some_iff.1 hb).1 hn).trans hb, r⟩, h2⟩
theorem keyOf_s (s : B) (h : Sz s) : keyOf Tryz.prog 9 (.string (sb s)) = some (.string s) := by
 rw [keyOf_string Tryz.underlying9]
 unfold mapKey
 rw [Tryz.underlying9]
 have h1 : (sb s).size ≤ maxLen := by rw [sb_size]; unfold Sz at h; unfold maxLen; omega
 have h2 : (sb s).data.toList = s := sb_list s
 simp [h1, h2]
theorem zeroInt (w : World) : (zeroValue 3).run Tryz.prog w = .ok (.int .i64 0) w := by kernel_rfl
theorem RV_zero : RV (.int .i64 0) = some (.lit (.int .i64 0), []) := rfl
theorem MpI.run_look {w : World} {b n : Nat} {f : B → Option Int} (h : MpI w b n f) (s : B) (hs : Sz s) :
  ∃ v : Value, (Instr.lookup 69 (.map (some b)) (.string (sb s)) true).run Tryz.prog w = .ok (.tuple #[v, .bool (f s).isSome]) w ∧ (Instr.lookup 69 (.map (some b)) (.string (sb s)) false).run Tryz.prog w = .ok v w ∧ v = .int .i64 ((f s).getD 0) := by
 obtain ⟨D, hD, h2⟩ := h
 obtain ⟨h3, h4⟩ := h2 s hs
 obtain ⟨v, ps, hr, hv⟩ := hD.look_ok kstr Tryz.underlying69 (zeroInt w) RV_zero (keyOf_s s hs)
 obtain ⟨v', ps', hr', hv'⟩ := hD.lookup kstr Tryz.underlying69 (zeroInt w) RV_zero (keyOf_s s hs)
 have hval : ∀ u qs, RV u = some (D.atKey (.string s) (.lit (.int .i64 0)), qs) → u = .int .i64 ((f s).getD 0) := fun u qs hu => by
  cases hf : f s with
  | some p =>
   rw [h4 p hf] at hu
   exact RV_inv hu
  | none =>
   rw [hf] at h3
   rw [Go.Maps.atKey_of_not_has h3] at hu
   exact RV_inv hu
 have e1 := hval v ps hv
 have e2 := hval v' ps' hv'
 rw [h3] at hr
 refine ⟨v, hr, ?_, e1⟩
 rw [hr', e2, e1]
theorem frGrown {w w' : World} {b : Nat} (hg : w.grownBy w' (some b)) : Fr (fun k => k = b) w w' :=
 ⟨hg.os, hg.tape, hg.output, hg.size, fun k hk hn => hg.block k hk (fun e => hn (Option.some.inj e))⟩
theorem MpI.run_upd {w : World} {b n : Nat} {f : B → Option Int} (h : MpI w b n f) (s : B) (p : Int) (hs : Sz s) (hn : n < 281474976710655) :
  ∃ w', (Instr.mapUpdate 69 (.map (some b)) (.string (sb s)) (.int .i64 p)).run Tryz.prog w = .ok () w' ∧ MpI w' b (n + 1) (updM f s p) ∧ Fr (fun k => k = b) w w' := by
 obtain ⟨D, hD, h2⟩ := h
 have hk : WideAt.IsKeyLit (Lit.string s) := trivial
 obtain ⟨w', hr, ho, hg⟩ := hD.update kstr Tryz.underlying69 (by unfold maxLen; omega) (keyOf_s s hs) (RV_mk p)
 refine ⟨w', hr, ⟨_, ho, fun t ht => ?_⟩, frGrown hg⟩
 unfold updM
 by_cases he : t = s
 ·subst he
  rw [if_pos rfl]
  exact ⟨Go.Maps.has_put_same hD.isMap hk _, fun q hq => by rw [Go.Maps.atKey_put_same hD.isMap hk]; cases hq; rfl⟩
 ·rw [if_neg he]
  have hne : (Lit.string t) ≠ Lit.string s := fun e => he (Lit.string.inj e)
  rw [Go.Maps.has_put_other hne]
  refine ⟨(h2 t ht).1, fun q hq => ?_⟩
  rw [Go.Maps.atKey_put_other hne]
  exact (h2 t ht).2 q hq
theorem MpI.made (w : World) : MpI (w.alloc (.map #[] 0)) w.heap.size 0 fun _ => none :=
 ⟨.map [], World.ownsMap_made w _ _ _, fun s _ => ⟨rfl, fun p hp => by cases hp⟩⟩
section
variable {ops : Array Oper} {rest : List Oper} {op : Oper} {a : Act} {w : World} {Q : Exit → Act → World → Prop}
theorem exec_look2 (x y : Operand) (ho : op.op = .lookup 69 x y true) (b n : Nat) (f : B → Option Int) (hx : a.eval x = .map (some b)) (s : B) (hy : a.eval y = .string (sb s)) (h : MpI w b n f) (hs : Sz s) :
  (execOp a.eval op).run Tryz.prog w = .ok (.value (.tuple #[.int .i64 ((f s).getD 0), .bool (f s).isSome])) w := by
 obtain ⟨v, hr, -, rfl⟩ := h.run_look s hs
 simp [execOp, ho, hx, hy, hr, Result.andThen]
theorem exec_look1 (x y : Operand) (ho : op.op = .lookup 69 x y false) (b n : Nat) (f : B → Option Int) (hx : a.eval x = .map (some b)) (s : B) (hy : a.eval y = .string (sb s)) (h : MpI w b n f) (hs : Sz s) :
  (execOp a.eval op).run Tryz.prog w = .ok (.value (.int .i64 ((f s).getD 0))) w := by
 obtain ⟨v, -, hr, rfl⟩ := h.run_look s hs
 simp [execOp, ho, hx, hy, hr, Result.andThen]
theorem wpL_upd (hgd : op.guard = none) (x y z : Operand) (ho : op.op = .mapUpdate 69 x y z) (b n : Nat) (f : B → Option Int) (hx : a.eval x = .map (some b)) (s : B) (p : Int) (hy : a.eval y = .string (sb s)) (hz : a.eval z = .int .i64 p) (h : MpI w b n f) (hs : Sz s) (hn : n < 281474976710655)
  (hK : ∀ w', Hid (MpI w' b (n + 1) (updM f s p)) → Hid (Fr (fun k => k = b) w w') → wpList Tryz.prog ops Q rest (a.put op.dst undef) w') : wpList Tryz.prog ops Q (op :: rest) a w := by
 refine wpList_plain hgd fun K hK' => ?_
 obtain ⟨w', hr, h1, h2⟩ := h.run_upd s p hs hn
 have h3 := hK w' (hid h1) (hid h2)
 unfold Oper.wp
 simp [execOp, ho, hx, hy, hz, hr, Result.andThen]
 exact hK' _ _ h3
theorem wpL_makeMap (hgd : op.guard = none) (t : TypeId) (ho : op.op = .makeMap t none)
  (hK : ∀ w', Hid (MpI w' w.heap.size 0 fun _ => none) → Hid (Fr No w w') → Hid (w'.heap.size = w.heap.size + 1) → wpList Tryz.prog ops Q rest (a.put op.dst (.map (some w.heap.size))) w') : wpList Tryz.prog ops Q (op :: rest) a w := by
 refine wpList_plain hgd fun K hK' => ?_
 have h3 := hK _ (hid (MpI.made w)) (hid ((Fr.refl No w).alloc _)) (hid (by simp))
 unfold Oper.wp
 simp [execOp, ho, run_makeMap, Result.andThen]
 exact hK' _ _ h3
end
def Out (X : Nat → Prop) (b : Nat) : Nat → Prop := fun k => ¬ X k ∧ k ≠ b
def posM : Nat → List B → (B → Option Int) → B → Option Int
 | _, [], f => f
 | i, n :: r, f => posM (i + 1) r (updM f (low n) i)
def posF (L : List B) : B → Option Int := posM 0 L fun _ => none
def Mps (w : World) (X : Nat → Prop) (b : Nat) (s : Sch) (d : Int) (tm cm : Value) : Prop :=
 (d = 0 ∧ tm = .map none ∧ cm = .map none) ∨ (d = 1 ∧ ∃ bt bc n m, tm = .map (some bt) ∧ cm = .map (some bc) ∧ Out X b bt ∧ Out X b bc ∧ MpI w bt n (posF s.tn) ∧ MpI w bc m (posF s.cn))
def schV (vt vc : Value) (d m : Int) (tm cm : Value) : List Value := [vt, vc, .int .u32 d, .int .i32 m, .int .u32 0, tm, cm]
def Sx (w : World) (X : Nat → Prop) (b : Nat) (s : Sch) : Prop :=
 ∃ vt vc d tm cm, Blk w b 71 (schV vt vc d 0 tm cm) ∧ ¬ X b ∧ TysIn (Out X b) w vt s.tys ∧ ClsIn (Out X b) w vc s.cls ∧ okS s = true ∧ Mps w X b s d tm cm
theorem Mps.fr {X D : Nat → Prop} {w w' : World} {b : Nat} {s : Sch} {d : Int} {tm cm : Value} (h : Mps w X b s d tm cm) (hf : Fr D w w') (hd : ∀ k, D k → X k ∨ k = b ∨ w.heap.size ≤ k) : Mps w' X b s d tm cm := by
 have hno : ∀ k, Out X b k → k < w.heap.size → ¬ D k := fun k ⟨h1, h2⟩ hk hD => by
  rcases hd k hD with h | h | h
  ·exact h1 h
  ·exact h2 h
  ·omega
 refine h.imp id ?_
 rintro ⟨e, bt, bc, n, m, e1, e2, h1, h2, h3, h4⟩
 exact ⟨e, bt, bc, n, m, e1, e2, h1, h2, h3.fr hf (hno _ h1 h3.lt), h4.fr hf (hno _ h2 h4.lt)⟩
theorem Sx.fr {X D : Nat → Prop} {w w' : World} {b : Nat} {s : Sch} (h : Sx w X b s) (hf : Fr D w w') (hd : ∀ k, D k → X k ∨ w.heap.size ≤ k) : Sx w' X b s := by
 obtain ⟨vt, vc, d, tm, cm, h1, h2, h3, h4, h5, h6⟩ := h
 have hno : ∀ k, Out X b k → k < w.heap.size → ¬ D k := fun k ⟨h1, _⟩ hk hD => by
  rcases hd k hD with h | h
  ·exact h1 h
  ·omega
 refine ⟨vt, vc, d, tm, cm, h1.fr hf (fun hD => ?_), h2, h3.fr hf hno, h4.fr hf hno, h5, h6.fr hf fun k hk => (hd k hk).imp id .inr⟩
 rcases hd b hD with h | h
 ·exact h2 h
 ·have := h1.lt; omega
theorem Sx.no {X : Nat → Prop} {w w' : World} {b : Nat} {s : Sch} (h : Sx w X b s) (hf : Fr No w w') : Sx w' X b s := h.fr hf fun _ e => e.elim
theorem Sx.more {X Y : Nat → Prop} {w : World} {b : Nat} {s : Sch} (h : Sx w X b s) (hy : ∀ k, Y k → X k ∨ w.heap.size ≤ k) : Sx w Y b s := by
 obtain ⟨vt, vc, d, tm, cm, h1, h2, h3, h4, h5, h6⟩ := h
 have hno : ∀ k, Out X b k → k < w.heap.size → Out Y b k := fun k ⟨h1, h2⟩ hk => ⟨fun hY => by
  rcases hy k hY with h | h
  ·exact h1 h
  ·omega, h2⟩
 refine ⟨vt, vc, d, tm, cm, h1, fun hY => ?_, h3.mono hno, h4.mono hno, h5, h6.imp id ?_⟩
 ·rcases hy b hY with h | h
  ·exact h2 h
  ·have := h1.lt; omega
 ·rintro ⟨e, bt, bc, n, m, e1, e2, g1, g2, g3, g4⟩
  exact ⟨e, bt, bc, n, m, e1, e2, hno _ g1 g3.lt, hno _ g2 g4.lt, g3, g4⟩
theorem Sx.lt {X : Nat → Prop} {w : World} {b : Nat} {s : Sch} (h : Sx w X b s) : b < w.heap.size := by
 obtain ⟨vt, vc, d, tm, cm, h1, -⟩ := h
 exact h1.lt
theorem Sx.nx {X : Nat → Prop} {w : World} {b : Nat} {s : Sch} (h : Sx w X b s) : ¬ X b := by
 obtain ⟨vt, vc, d, tm, cm, -, h2, -⟩ := h
 exact h2
theorem Sx.ok {X : Nat → Prop} {w : World} {b : Nat} {s : Sch} (h : Sx w X b s) : okS s = true := by
 obtain ⟨vt, vc, d, tm, cm, -, -, -, -, h5, -⟩ := h
 exact h5
theorem infoTy : (Tryz.prog.info? 53).map (·.size) = some 6 := by kernel_rfl
theorem infoCl : (Tryz.prog.info? 55).map (·.size) = some 5 := by kernel_rfl
theorem infoAt : (Tryz.prog.info? 45).map (·.size) = some 2 := by kernel_rfl
theorem infoSc : (Tryz.prog.info? 25).map (·.size) = some 2 := by kernel_rfl
end Go.Proofs.YtgbiicipkbpmeaaGreatDoor.SC
namespace Go.Proofs.YtgbiicipkbpmeaaGreatDoor.SC
set_option maxRecDepth 100000
open Go.Shelf Go.RowKit K BE DN
def laysC172_ren : Go.Shelf.Ren := ⟨fun | 172 => 73 | 244 => 123 | 245 => 124 | 247 => 159 | 279 => 160 | 280 => 161 | 281 => 162 | 282 => 163 | 287 => 196 | 316 => 197 | 171 => 74 | 205 => 198 | 321 => 225 | 322 => 226 | 243 => 125 | 246 => 164 | 283 => 199 | 284 => 200 | 285 => 201 | 286 => 202 | 129 => 228 | 317 => 227 | 318 => 229 | 319 => 230 | 320 => 231 | 337 => 249 | 338 => 250 | n => n, fun | 9 => 9 | 3 => 3 | 75 => 134 | 76 => 135 | 4 => 4 | 5 => 5 | 167 => 213 | 37 => 150 | 0 => 0 | 85 => 214 | 2 => 2 | 168 => 216 | 53 => 242 | 175 => 243 | 46 => 192 | 210 => 246 | 127 => 212 | 145 => 271 | 143 => 269 | 21 => 21 | 171 => 248 | 173 => 251 | 212 => 272 | 51 => 60 | 20 => 20 | 213 => 273 | 232 => 288 | 233 => 289 | 80 => 179 | n => n, fun | 15 => 1 | 16 => 2 | 17 => 3 | 18 => 6 | 19 => 7 | n => n⟩
theorem laysC172 : Go.Proofs.LaysC.n172 Tryz.prog laysC172_ren := {
 mixed := by kernel_rfl
 f129 := Tryz.func228.trans (congrArg some (by kernel_rfl))
 f171 := Tryz.func74.trans (congrArg some (by kernel_rfl))
 f172 := Tryz.func73.trans (congrArg some (by kernel_rfl))
 f205 := Tryz.func198.trans (congrArg some (by kernel_rfl))
 f243 := Tryz.func125.trans (congrArg some (by kernel_rfl))
 f244 := Tryz.func123.trans (congrArg some (by kernel_rfl))
 f245 := Tryz.func124.trans (congrArg some (by kernel_rfl))
 f246 := Tryz.func164.trans (congrArg some (by kernel_rfl))
 f247 := Tryz.func159.trans (congrArg some (by kernel_rfl))
 f279 := Tryz.func160.trans (congrArg some (by kernel_rfl))
 f280 := Tryz.func161.trans (congrArg some (by kernel_rfl))
 f281 := Tryz.func162.trans (congrArg some (by kernel_rfl))
 f282 := Tryz.func163.trans (congrArg some (by kernel_rfl))
 f283 := Tryz.func199.trans (congrArg some (by kernel_rfl))
 f284 := Tryz.func200.trans (congrArg some (by kernel_rfl))
 f285 := Tryz.func201.trans (congrArg some (by kernel_rfl))
 f286 := Tryz.func202.trans (congrArg some (by kernel_rfl))
 f287 := Tryz.func196.trans (congrArg some (by kernel_rfl))
 f316 := Tryz.func197.trans (congrArg some (by kernel_rfl))
 f317 := Tryz.func227.trans (congrArg some (by kernel_rfl))
 f318 := Tryz.func229.trans (congrArg some (by kernel_rfl))
 f319 := Tryz.func230.trans (congrArg some (by kernel_rfl))
 f320 := Tryz.func231.trans (congrArg some (by kernel_rfl))
 f321 := Tryz.func225.trans (congrArg some (by kernel_rfl))
 f322 := Tryz.func226.trans (congrArg some (by kernel_rfl))
 f337 := Tryz.func249.trans (congrArg some (by kernel_rfl))
 f338 := Tryz.func250.trans (congrArg some (by kernel_rfl))
 t0 := Tryz.underlying0
 a0 := Tryz.isAgg0
 z0 := Tryz.sizeOf0
 v0 := Tryz.zeroValue0
 t2 := Tryz.underlying2
 a2 := Tryz.isAgg2
 z2 := Tryz.sizeOf2
 v2 := Tryz.zeroValue2
 t3 := Tryz.underlying3
 a3 := Tryz.isAgg3
 z3 := Tryz.sizeOf3
 v3 := Tryz.zeroValue3
 t4 := Tryz.underlying4
 a4 := Tryz.isAgg4
 z4 := Tryz.sizeOf4
 v4 := Tryz.zeroValue4
 t5 := Tryz.underlying5
 a5 := Tryz.isAgg5
 z5 := Tryz.sizeOf5
 v5 := Tryz.zeroValue5
 t9 := Tryz.underlying9
 a9 := Tryz.isAgg9
 z9 := Tryz.sizeOf9
 v9 := Tryz.zeroValue9
 t20 := Tryz.underlying20
 a20 := Tryz.isAgg20
 z20 := Tryz.sizeOf20
 v20 := Tryz.zeroValue20
 t21 := Tryz.underlying21
 a21 := Tryz.isAgg21
 z21 := Tryz.sizeOf21
 v21 := Tryz.zeroValue21
 t37 := Tryz.underlying150
 a37 := Tryz.isAgg150
 z37 := Tryz.sizeOf150
 v37 := Tryz.zeroValue150
 t46 := Tryz.underlying192
 a46 := Tryz.isAgg192
 z46 := Tryz.sizeOf192
 v46 := Tryz.zeroValue192
 t51 := Tryz.underlying60
 a51 := Tryz.isAgg60
 z51 := Tryz.sizeOf60
 v51 := Tryz.zeroValue60
 t53 := Tryz.underlying242
 a53 := Tryz.isAgg242
 z53 := Tryz.sizeOf242
 v53 := Tryz.zeroValue242
 t75 := Tryz.underlying134
 a75 := Tryz.isAgg134
 z75 := Tryz.sizeOf134
 v75 := Tryz.zeroValue134
 t76 := Tryz.underlying135
 a76 := Tryz.isAgg135
 z76 := Tryz.sizeOf135
 v76 := Tryz.zeroValue135
 t85 := Tryz.underlying214
 a85 := Tryz.isAgg214
 z85 := Tryz.sizeOf214
 v85 := Tryz.zeroValue214
 t127 := Tryz.underlying212
 a127 := Tryz.isAgg212
 z127 := Tryz.sizeOf212
 v127 := Tryz.zeroValue212
 t143 := Tryz.underlying269
 a143 := Tryz.isAgg269
 z143 := Tryz.sizeOf269
 v143 := Tryz.zeroValue269
 t145 := Tryz.underlying271
 a145 := Tryz.isAgg271
 z145 := Tryz.sizeOf271
 v145 := Tryz.zeroValue271
 t167 := Tryz.underlying213
 a167 := Tryz.isAgg213
 z167 := Tryz.sizeOf213
 v167 := Tryz.zeroValue213
 t168 := Tryz.underlying216
 a168 := Tryz.isAgg216
 z168 := Tryz.sizeOf216
 v168 := Tryz.zeroValue216
 t171 := Tryz.underlying248
 a171 := Tryz.isAgg248
 z171 := Tryz.sizeOf248
 v171 := Tryz.zeroValue248
 t173 := Tryz.underlying251
 a173 := Tryz.isAgg251
 z173 := Tryz.sizeOf251
 v173 := Tryz.zeroValue251
 t175 := Tryz.underlying243
 a175 := Tryz.isAgg243
 z175 := Tryz.sizeOf243
 v175 := Tryz.zeroValue243
 t210 := Tryz.underlying246
 a210 := Tryz.isAgg246
 z210 := Tryz.sizeOf246
 v210 := Tryz.zeroValue246
 t212 := Tryz.underlying272
 a212 := Tryz.isAgg272
 z212 := Tryz.sizeOf272
 v212 := Tryz.zeroValue272
 t213 := Tryz.underlying273
 a213 := Tryz.isAgg273
 z213 := Tryz.sizeOf273
 t232 := Tryz.underlying288
 a232 := Tryz.isAgg288
 z232 := Tryz.sizeOf288
 v232 := Tryz.zeroValue288
 t233 := Tryz.underlying289
 a233 := Tryz.isAgg289
 z233 := Tryz.sizeOf289
 v233 := Tryz.zeroValue289
 g15 := by kernel_rfl
 g16 := by kernel_rfl
 g17 := by kernel_rfl
 g18 := by kernel_rfl
 g19 := by kernel_rfl
 t80 := Tryz.underlying179
 a80 := Tryz.isAgg179
 z80 := Tryz.sizeOf179
 v80 := Tryz.zeroValue179
 i0 := by kernel_rfl
 i2 := by kernel_rfl
 i3 := by kernel_rfl
 i4 := by kernel_rfl
 i5 := by kernel_rfl
 i9 := by kernel_rfl
 i20 := by kernel_rfl
 i21 := by kernel_rfl
 i37 := by kernel_rfl
 i46 := by kernel_rfl
 i51 := by kernel_rfl
 i53 := by kernel_rfl
 i75 := by kernel_rfl
 i76 := by kernel_rfl
 i80 := by kernel_rfl
 i85 := by kernel_rfl
 i127 := by kernel_rfl
 i143 := by kernel_rfl
 i145 := by kernel_rfl
 i167 := by kernel_rfl
 i168 := by kernel_rfl
 i171 := by kernel_rfl
 i173 := by kernel_rfl
 i175 := by kernel_rfl
 i210 := by kernel_rfl
 i212 := by kernel_rfl
 i232 := by kernel_rfl
 i233 := by kernel_rfl
 m15 := by kernel_rfl
 m16 := by kernel_rfl
 m17 := by kernel_rfl
 m18 := by kernel_rfl
 m19 := by kernel_rfl
 c0 := by kernel_rfl
 c2 := by kernel_rfl
 c3 := by kernel_rfl
 c4 := by kernel_rfl
 c5 := by kernel_rfl
 c9 := by kernel_rfl
 c20 := by kernel_rfl
 c21 := by kernel_rfl
 c37 := by kernel_rfl
 c46 := by kernel_rfl
 c51 := by kernel_rfl
 c53 := by kernel_rfl
 c75 := by kernel_rfl
 c76 := by kernel_rfl
 c80 := by kernel_rfl
 c85 := by kernel_rfl
 c127 := by kernel_rfl
 c143 := by kernel_rfl
 c145 := by kernel_rfl
 c167 := by kernel_rfl
 c168 := by kernel_rfl
 c171 := by kernel_rfl
 c173 := by kernel_rfl
 c175 := by kernel_rfl
 c210 := by kernel_rfl
 c212 := by kernel_rfl
 c213 := by kernel_rfl
 c232 := by kernel_rfl
 c233 := by kernel_rfl }
def laysM171_ren : Go.Shelf.Ren := ⟨fun | 171 => 74 | 243 => 125 | 246 => 164 | 283 => 199 | 284 => 200 | 285 => 201 | 286 => 202 | 129 => 228 | 317 => 227 | 318 => 229 | 319 => 230 | 320 => 231 | 337 => 249 | 338 => 250 | n => n, fun | 3 => 3 | 9 => 9 | 2 => 2 | 4 => 4 | 171 => 248 | 0 => 0 | 53 => 242 | 37 => 150 | 5 => 5 | 173 => 251 | 212 => 272 | 51 => 60 | 20 => 20 | 213 => 273 | 46 => 192 | 232 => 288 | 233 => 289 | n => n, fun | 17 => 3 | 18 => 6 | 19 => 7 | n => n⟩
theorem laysM171 : Go.Proofs.LaysM.n171 Tryz.prog laysM171_ren := {
 mixed := by kernel_rfl
 f129 := Tryz.func228.trans (congrArg some (by kernel_rfl))
 f171 := Tryz.func74.trans (congrArg some (by kernel_rfl))
 f243 := Tryz.func125.trans (congrArg some (by kernel_rfl))
 f246 := Tryz.func164.trans (congrArg some (by kernel_rfl))
 f283 := Tryz.func199.trans (congrArg some (by kernel_rfl))
 f284 := Tryz.func200.trans (congrArg some (by kernel_rfl))
 f285 := Tryz.func201.trans (congrArg some (by kernel_rfl))
 f286 := Tryz.func202.trans (congrArg some (by kernel_rfl))
 f317 := Tryz.func227.trans (congrArg some (by kernel_rfl))
 f318 := Tryz.func229.trans (congrArg some (by kernel_rfl))
 f319 := Tryz.func230.trans (congrArg some (by kernel_rfl))
 f320 := Tryz.func231.trans (congrArg some (by kernel_rfl))
 f337 := Tryz.func249.trans (congrArg some (by kernel_rfl))
 f338 := Tryz.func250.trans (congrArg some (by kernel_rfl))
 t0 := Tryz.underlying0
 a0 := Tryz.isAgg0
 z0 := Tryz.sizeOf0
 v0 := Tryz.zeroValue0
 t2 := Tryz.underlying2
 a2 := Tryz.isAgg2
 z2 := Tryz.sizeOf2
 v2 := Tryz.zeroValue2
 t3 := Tryz.underlying3
 a3 := Tryz.isAgg3
 z3 := Tryz.sizeOf3
 v3 := Tryz.zeroValue3
 t4 := Tryz.underlying4
 a4 := Tryz.isAgg4
 z4 := Tryz.sizeOf4
 v4 := Tryz.zeroValue4
 t5 := Tryz.underlying5
 a5 := Tryz.isAgg5
 z5 := Tryz.sizeOf5
 v5 := Tryz.zeroValue5
 t9 := Tryz.underlying9
 a9 := Tryz.isAgg9
 z9 := Tryz.sizeOf9
 v9 := Tryz.zeroValue9
 t20 := Tryz.underlying20
 a20 := Tryz.isAgg20
 z20 := Tryz.sizeOf20
 v20 := Tryz.zeroValue20
 t37 := Tryz.underlying150
 a37 := Tryz.isAgg150
 z37 := Tryz.sizeOf150
 v37 := Tryz.zeroValue150
 t46 := Tryz.underlying192
 a46 := Tryz.isAgg192
 z46 := Tryz.sizeOf192
 v46 := Tryz.zeroValue192
 t51 := Tryz.underlying60
 a51 := Tryz.isAgg60
 z51 := Tryz.sizeOf60
 v51 := Tryz.zeroValue60
 t53 := Tryz.underlying242
 a53 := Tryz.isAgg242
 z53 := Tryz.sizeOf242
 v53 := Tryz.zeroValue242
 t171 := Tryz.underlying248
 a171 := Tryz.isAgg248
 z171 := Tryz.sizeOf248
 v171 := Tryz.zeroValue248
 t173 := Tryz.underlying251
 a173 := Tryz.isAgg251
 z173 := Tryz.sizeOf251
 v173 := Tryz.zeroValue251
 t212 := Tryz.underlying272
 a212 := Tryz.isAgg272
 z212 := Tryz.sizeOf272
 v212 := Tryz.zeroValue272
 t213 := Tryz.underlying273
 a213 := Tryz.isAgg273
 z213 := Tryz.sizeOf273
 t232 := Tryz.underlying288
 a232 := Tryz.isAgg288
 z232 := Tryz.sizeOf288
 v232 := Tryz.zeroValue288
 t233 := Tryz.underlying289
 a233 := Tryz.isAgg289
 z233 := Tryz.sizeOf289
 v233 := Tryz.zeroValue289
 g17 := by kernel_rfl
 g18 := by kernel_rfl
 g19 := by kernel_rfl
 i0 := by kernel_rfl
 i2 := by kernel_rfl
 i3 := by kernel_rfl
 i4 := by kernel_rfl
 i5 := by kernel_rfl
 i9 := by kernel_rfl
 i20 := by kernel_rfl
 i37 := by kernel_rfl
 i46 := by kernel_rfl
 i51 := by kernel_rfl
 i53 := by kernel_rfl
 i171 := by kernel_rfl
 i173 := by kernel_rfl
 i212 := by kernel_rfl
 i232 := by kernel_rfl
 i233 := by kernel_rfl
 m17 := by kernel_rfl
 m18 := by kernel_rfl
 m19 := by kernel_rfl }
def Gs (w : World) : Prop := Gl w ∧ (∃ t u, w.cell? ⟨2, 0, none⟩ = some (.iface t u)) ∧ Lib.TabIs Tryz.prog w "internal/strconv.uint64pow10" .u64 Lib.pow10Tab
def GX (X : Nat → Prop) : Prop := X 1 ∧ X 2 ∧ X 3
theorem gTab : Tryz.prog.globalNamed "internal/strconv.uint64pow10" = some 3 := by kernel_rfl
theorem Gs.fr {D : Nat → Prop} {w w' : World} (h : Gs w) (hf : Fr D w w') (h1 : ¬ D 1) (h2 : ¬ D 2) (h3 : ¬ D 3) : Gs w' := by
 obtain ⟨a, ⟨t, u, b⟩, c⟩ := h
 refine ⟨a.fr hf h1, ⟨t, u, hf.cell b h2⟩, ?_⟩
 unfold Lib.TabIs World.var? at *
 simp only [gTab, Option.bind_some] at c ⊢
 have hlt : 3 < w.heap.size := by
  rcases Nat.lt_or_ge 3 w.heap.size with h' | h'
  ·exact h'
  ·rw [Array.getElem?_eq_none h'] at c; simp at c
 rw [hf.block _ hlt h3]
 exact c
theorem Gs.no {w w' : World} (h : Gs w) (hf : Fr No w w') : Gs w' := h.fr hf id id id
theorem Gs.bb {X : Nat → Prop} {w w' : World} {b : Nat} (h : Gs w) (hf : Fr (fun k => k = b) w w') (hx : GX X) (hb : ¬ X b) : Gs w' :=
 h.fr hf (fun e => hb (by have e : 1 = b := e; rw [← e]; exact hx.1)) (fun e => hb (by have e : 2 = b := e; rw [← e]; exact hx.2.1)) (fun e => hb (by have e : 3 = b := e; rw [← e]; exact hx.2.2))
theorem Gs.gx {w : World} (h : Gs w) : GX (fun k => k < w.heap.size) := by
 obtain ⟨a, ⟨t, u, b⟩, c⟩ := h
 refine ⟨a.lt, World.block_lt_of_cell? w _ b, ?_⟩
 unfold Lib.TabIs World.var? at c
 simp only [gTab, Option.bind_some] at c
 rcases Nat.lt_or_ge 3 w.heap.size with h' | h'
 ·exact h'
 ·rw [Array.getElem?_eq_none h'] at c; simp at c
theorem below_fr0 {w w' : World} (h : Go.RowKit.Below w.heap.size w w') : Fr No w w' := ⟨h.os, h.tape, h.output, h.size, fun k hk _ => h.block k hk⟩
theorem atoi_ok (v : B) (hz : Sz v) (m : Int) (h : Lib.atoiAll v = .ok m) (w : World) : Calls Tryz.prog 73 #[.string (sb v)] w fun e w' => e = .returned (.tuple #[.int .i64 m, .nilIface]) ∧ Fr No w w' := by
 have h1 : (sb v).size = v.length := sb_size v
 refine (Any.strconv_Atoi_ok laysC172 (sb v) (by rw [h1]; unfold Sz at hz; omega) m (by rw [sb_list]; exact h) w).mono ?_
 rintro e w' ⟨rfl, rfl | ⟨t, rfl⟩⟩
 ·exact ⟨rfl, Fr.refl _ _⟩
 ·exact ⟨rfl, below_fr0 (Lib.bytesWorld_below w _ t)⟩
theorem atoi_bad (v : B) (hz : Sz v) (h : ∀ m, Lib.atoiAll v ≠ .ok m) (w : World) (hG : Gs w) : Calls Tryz.prog 73 #[.string (sb v)] w fun e w' => (∃ m t u, e = .returned (.tuple #[.int .i64 m, .iface t u])) ∧ Fr No w w' := by
 have h1 : (sb v).size = v.length := sb_size v
 have h2 : (sb v).data.toList = v := sb_list v
 obtain ⟨⟨t1, u1, a⟩, ⟨t, u, b⟩, c⟩ := hG
 rcases he : Lib.atoiAll v with m | - | -
 ·exact absurd he (h m)
 ·refine (Any.strconv_Atoi_syntax laysC172 (sb v) (by rw [h1]; unfold Sz at hz; omega) (by rw [h2]; exact he) _ w a (.inr ⟨_, _, rfl⟩)).mono ?_
  rintro e w' ⟨N, rfl, -, -, hb⟩
  exact ⟨⟨_, _, _, rfl⟩, below_fr0 hb⟩
 ·refine (Any.strconv_Atoi_range laysC172 (sb v) (by rw [h1]; unfold Sz at hz; omega) (by rw [h2]; exact he) _ w b (.inr ⟨_, _, rfl⟩)).mono ?_
  rintro e w' ⟨N, rfl, -, -, hb⟩
  exact ⟨⟨_, _, _, rfl⟩, below_fr0 hb⟩
theorem grow_fr (w : World) (n : Nat) (os : Array Obj) : Fr No w (Go.Sort.grow (w.drewN n) os) :=
 ⟨rfl, rfl, rfl, by show w.heap.size ≤ (w.heap ++ os).size; simp, fun k hk _ => by show (w.heap ++ os)[k]? = _; rw [Array.getElem?_append_left hk]⟩
theorem itoa_any (m : Int) (h0 : -9223372036854775808 ≤ m) (h1 : m ≤ 9223372036854775807) (w : World) (hG : Gs w) : Calls Tryz.prog 74 #[.int .i64 m] w fun e w' => e = .returned (.string (sb (Lib.itoa m))) ∧ Fr No w w' := by
 refine (Any.strconv_Itoa laysM171 m h0 h1 w hG.2.2).mono ?_
 rintro e w' ⟨rfl, k, os, rfl⟩
 exact ⟨rfl, grow_fr w k os⟩
end Go.Proofs.YtgbiicipkbpmeaaGreatDoor.SC
namespace Go.Proofs.YtgbiicipkbpmeaaGreatDoor.SC
set_option maxRecDepth 100000
open Go.ChangeShapes Go.WideShapes Go.ChangeAt Go.RowKit K BE DN
theorem _root_.Go.Proofs.YtgbiicipkbpmeaaGreatDoor.DN.ReadsB.int {k fuel : Nat} {w : World} {t : TypeId} {i : IntKind} {cs : List Value} (hu : Tryz.prog.underlying t = some (.int i)) (h : ReadsB k fuel w t cs) : ∃ n, cs = [.int i n] := by
 obtain ⟨H, enc, x, h1, -, -⟩ := h
 obtain ⟨n, r1, -, -⟩ := DataW.trod_int hu h1
 exact ⟨n, r1⟩
theorem _root_.Go.Proofs.YtgbiicipkbpmeaaGreatDoor.DN.ReadsB.bool {k fuel : Nat} {w : World} {t : TypeId} {cs : List Value} (hu : Tryz.prog.underlying t = some .bool) (h : ReadsB k fuel w t cs) : ∃ b, cs = [.bool b] := by
 obtain ⟨H, enc, x, h1, -, -⟩ := h
 obtain ⟨n, r1, -⟩ := DataW.trod_bool hu h1
 exact ⟨n, r1⟩
theorem _root_.Go.Proofs.YtgbiicipkbpmeaaGreatDoor.DN.ReadsB.len {k fuel : Nat} {w : World} {t e : TypeId} {a : Option Addr} {n c : Nat} (hu : Tryz.prog.underlying t = some (.slice e)) (h : ReadsB k fuel w t [.slice a n c]) : n * Tryz.prog.bytesOf e ≤ reachBytes := by
 rcases h.slice hu with e1 | ⟨a1, len, cap, f1, -, e1, -, h2, -⟩
 ·simp only [List.cons.injEq, Value.slice.injEq, and_true] at e1
  rw [e1.2.1, Nat.zero_mul]
  exact Nat.zero_le _
 ·simp only [List.cons.injEq, Value.slice.injEq, and_true] at e1
  rw [e1.2.1]
  exact h2
def LsB (k : Nat) (l : List B) : Prop := l.length ≤ k ∧ ∀ x ∈ l, x.length ≤ k
def TyB (k : Nat) (t : Ty) : Prop := t.nm.length ≤ k
def ClB (k : Nat) (c : Cl) : Prop := c.nm.length ≤ k ∧ c.sup.length ≤ k ∧ LsB k c.must ∧ LsB k c.may
def SchB (k : Nat) (s : Sch) : Prop := (s.tys.length ≤ k ∧ ∀ t ∈ s.tys, TyB k t) ∧ s.cls.length ≤ k ∧ ∀ c ∈ s.cls, ClB k c
def EnB (k : Nat) (en : Ent) : Prop := en.length ≤ k ∧ ∀ a ∈ en, a.1.length ≤ k ∧ LsB k a.2
theorem cTy : Tryz.prog.cellsOf 53 = 6 := by kernel_rfl
theorem cCl : Tryz.prog.cellsOf 55 = 5 := by kernel_rfl
theorem cSc : Tryz.prog.cellsOf 25 = 2 := by kernel_rfl
theorem cAt : Tryz.prog.cellsOf 45 = 2 := by kernel_rfl
theorem cLs : Tryz.prog.cellsOf 37 = 1 := by kernel_rfl
theorem cTys : Tryz.prog.cellsOf 22 = 1 := by kernel_rfl
theorem cCls : Tryz.prog.cellsOf 23 = 1 := by kernel_rfl
theorem cBo : Tryz.prog.cellsOf 4 = 1 := by kernel_rfl
theorem cIn : Tryz.prog.cellsOf 3 = 1 := by kernel_rfl
theorem bS : Tryz.prog.bytesOf 9 = 16 := by kernel_rfl
theorem bTy : 1 ≤ Tryz.prog.bytesOf 53 := by rw [show Tryz.prog.bytesOf 53 = 32 by kernel_rfl]; decide
theorem bCl : 1 ≤ Tryz.prog.bytesOf 55 := by rw [show Tryz.prog.bytesOf 55 = 88 by kernel_rfl]; decide
theorem bAt : 1 ≤ Tryz.prog.bytesOf 45 := by rw [show Tryz.prog.bytesOf 45 = 40 by kernel_rfl]; decide
theorem ls_b {k f : Nat} {w : World} {cs : List Value} (h : ReadsB k f w 37 cs) : ∃ v l, cs = [v] ∧ LsIn (fun i => i < w.heap.size) w v l ∧ LsB k l ∧ l.length * 16 ≤ 140737488351232 := by
 obtain ⟨v, xs, e, h1, h2, h3⟩ := h.rows (p := StC) (q := fun x => x.length ≤ k) Tryz.underlying37 cS (by decide) (by rw [bS]; decide) (fun f1 cs' _ hr => by
  obtain ⟨l, e, h1, h2⟩ := hr.string Tryz.underlying9
  exact ⟨l, ⟨e, h1⟩, h2⟩)
 refine ⟨v, xs, e, h1, ⟨h2, h3⟩, ?_⟩
 obtain ⟨a, cap, rfl, -, -⟩ := Sl.form h1
 subst e
 have := h.len Tryz.underlying37
 rw [bS] at this
 exact this
theorem ty_b {k f : Nat} {w : World} {cs : List Value} (h : ReadsB k f w 53 cs) : ∃ t, TyC t cs ∧ TyB k t := by
 obtain ⟨f1, rfl, hl, hf⟩ := h.struct Tryz.underlying53
 rw [cTy] at hl
 obtain ⟨c0, c1, c2, c3, c4, c5, rfl⟩ : ∃ c0 c1 c2 c3 c4 c5, cs = [c0, c1, c2, c3, c4, c5] := by
  match cs, hl with
  | [c0, c1, c2, c3, c4, c5], _ => exact ⟨c0, c1, c2, c3, c4, c5, rfl⟩
 have k0 : ReadsB k f1 w 9 (([c0, c1, c2, c3, c4, c5].drop 0).take (Tryz.prog.cellsOf 9)) := hf 0 _ rfl
 rw [cS] at k0
 have k1 : ReadsB k f1 w 3 (([c0, c1, c2, c3, c4, c5].drop 1).take (Tryz.prog.cellsOf 3)) := hf 1 _ rfl
 rw [cIn] at k1
 have k2 : ReadsB k f1 w 4 (([c0, c1, c2, c3, c4, c5].drop 2).take (Tryz.prog.cellsOf 4)) := hf 2 _ rfl
 rw [cBo] at k2
 have k3 : ReadsB k f1 w 4 (([c0, c1, c2, c3, c4, c5].drop 3).take (Tryz.prog.cellsOf 4)) := hf 3 _ rfl
 rw [cBo] at k3
 have k4 : ReadsB k f1 w 4 (([c0, c1, c2, c3, c4, c5].drop 4).take (Tryz.prog.cellsOf 4)) := hf 4 _ rfl
 rw [cBo] at k4
 have k5 : ReadsB k f1 w 4 (([c0, c1, c2, c3, c4, c5].drop 5).take (Tryz.prog.cellsOf 4)) := hf 5 _ rfl
 rw [cBo] at k5
 obtain ⟨n, e0, g0, b0⟩ := k0.string Tryz.underlying9
 obtain ⟨s, e1⟩ := k1.int Tryz.underlying3
 obtain ⟨x2, e2⟩ := k2.bool Tryz.underlying4
 obtain ⟨x3, e3⟩ := k3.bool Tryz.underlying4
 obtain ⟨x4, e4⟩ := k4.bool Tryz.underlying4
 obtain ⟨x5, e5⟩ := k5.bool Tryz.underlying4
 simp only [List.drop_zero, List.drop_succ_cons, List.take_succ_cons, List.take_zero, List.cons.injEq, and_true] at e0 e1 e2 e3 e4 e5
 subst e0 e1 e2 e3 e4 e5
 exact ⟨⟨n, s, x2, x3, x4, x5⟩, ⟨rfl, g0⟩, b0⟩
theorem cl_b {k f : Nat} {w : World} {cs : List Value} (h : ReadsB k f w 55 cs) : ∃ c, ClC (fun i => i < w.heap.size) w c cs ∧ ClB k c := by
 obtain ⟨f1, rfl, hl, hf⟩ := h.struct Tryz.underlying55
 rw [cCl] at hl
 obtain ⟨c0, c1, c2, c3, c4, rfl⟩ : ∃ c0 c1 c2 c3 c4, cs = [c0, c1, c2, c3, c4] := by
  match cs, hl with
  | [c0, c1, c2, c3, c4], _ => exact ⟨c0, c1, c2, c3, c4, rfl⟩
 have k0 : ReadsB k f1 w 9 (([c0, c1, c2, c3, c4].drop 0).take (Tryz.prog.cellsOf 9)) := hf 0 _ rfl
 rw [cS] at k0
 have k1 : ReadsB k f1 w 3 (([c0, c1, c2, c3, c4].drop 1).take (Tryz.prog.cellsOf 3)) := hf 1 _ rfl
 rw [cIn] at k1
 have k2 : ReadsB k f1 w 9 (([c0, c1, c2, c3, c4].drop 2).take (Tryz.prog.cellsOf 9)) := hf 2 _ rfl
 rw [cS] at k2
 have k3 : ReadsB k f1 w 37 (([c0, c1, c2, c3, c4].drop 3).take (Tryz.prog.cellsOf 37)) := hf 3 _ rfl
 rw [cLs] at k3
 have k4 : ReadsB k f1 w 37 (([c0, c1, c2, c3, c4].drop 4).take (Tryz.prog.cellsOf 37)) := hf 4 _ rfl
 rw [cLs] at k4
 obtain ⟨n, e0, g0, b0⟩ := k0.string Tryz.underlying9
 obtain ⟨s, e1⟩ := k1.int Tryz.underlying3
 obtain ⟨u, e2, g2, b2⟩ := k2.string Tryz.underlying9
 obtain ⟨v3, l3, e3, g3, b3, n3⟩ := ls_b k3
 obtain ⟨v4, l4, e4, g4, b4, n4⟩ := ls_b k4
 simp only [List.drop_zero, List.drop_succ_cons, List.take_succ_cons, List.take_zero, List.cons.injEq, and_true] at e0 e1 e2 e3 e4
 subst e0 e1 e2 e3 e4
 exact ⟨⟨n, s, u, l3, l4⟩, ⟨c3, c4, rfl, g0, g2, g3, g4, n3, n4⟩, b0, b2, b3, b4⟩
theorem at_b {k f : Nat} {w : World} {cs : List Value} (h : ReadsB k f w 45 cs) : ∃ a : Atr, AtC (fun i => i < w.heap.size) w a cs ∧ (a.1.length ≤ k ∧ LsB k a.2) ∧ a.2.length * 16 ≤ 140737488351232 := by
 obtain ⟨f1, rfl, hl, hf⟩ := h.struct Tryz.underlying45
 rw [cAt] at hl
 obtain ⟨c0, c1, rfl⟩ : ∃ c0 c1, cs = [c0, c1] := by
  match cs, hl with
  | [c0, c1], _ => exact ⟨c0, c1, rfl⟩
 have k0 : ReadsB k f1 w 9 (([c0, c1].drop 0).take (Tryz.prog.cellsOf 9)) := hf 0 _ rfl
 rw [cS] at k0
 have k1 : ReadsB k f1 w 37 (([c0, c1].drop 1).take (Tryz.prog.cellsOf 37)) := hf 1 _ rfl
 rw [cLs] at k1
 obtain ⟨n, e0, g0, b0⟩ := k0.string Tryz.underlying9
 obtain ⟨v1, l1, e1, g1, b1, b16⟩ := ls_b k1
 simp only [List.drop_zero, List.drop_succ_cons, List.take_succ_cons, List.take_zero, List.cons.injEq, and_true] at e0 e1
 subst e0 e1
 exact ⟨(n, l1), ⟨c1, rfl, g0, g1⟩, ⟨b0, b1⟩, b16⟩
theorem en_b {k f : Nat} {w : World} {cs : List Value} (h : ReadsB k f w 26 cs) : ∃ v en, cs = [v] ∧ EnIn (fun i => i < w.heap.size) w v en ∧ (EnB k en ∧ ∀ a ∈ en, a.2.length * 16 ≤ 140737488351232) ∧ en.length * 40 ≤ 140737488351232 := by
 obtain ⟨v, xs, e, h1, h2, h3⟩ := h.rows (p := AtC (fun i => i < w.heap.size) w) (q := fun a : Atr => (a.1.length ≤ k ∧ LsB k a.2) ∧ a.2.length * 16 ≤ 140737488351232) Tryz.underlying26 cAt (by decide) bAt (fun f1 cs' _ hr => at_b hr)
 refine ⟨v, xs, e, h1, ⟨⟨h2, fun a ha => (h3 a ha).1⟩, fun a ha => (h3 a ha).2⟩, ?_⟩
 obtain ⟨a, cap, rfl, -, -⟩ := Sl.form h1
 subst e
 have := h.len Tryz.underlying26
 rw [show Tryz.prog.bytesOf 45 = 40 by kernel_rfl] at this
 exact this
theorem sch_b {k f : Nat} {w : World} {cs : List Value} (h : ReadsB k f w 25 cs) : ∃ vt vc s, cs = [vt, vc] ∧ TysIn (fun i => i < w.heap.size) w vt s.tys ∧ ClsIn (fun i => i < w.heap.size) w vc s.cls ∧ SchB k s := by
 obtain ⟨f1, rfl, hl, hf⟩ := h.struct Tryz.underlying25
 rw [cSc] at hl
 obtain ⟨c0, c1, rfl⟩ : ∃ c0 c1, cs = [c0, c1] := by
  match cs, hl with
  | [c0, c1], _ => exact ⟨c0, c1, rfl⟩
 have k0 : ReadsB k f1 w 22 (([c0, c1].drop 0).take (Tryz.prog.cellsOf 22)) := hf 0 _ rfl
 rw [cTys] at k0
 have k1 : ReadsB k f1 w 23 (([c0, c1].drop 1).take (Tryz.prog.cellsOf 23)) := hf 1 _ rfl
 rw [cCls] at k1
 obtain ⟨v0, l0, e0, g0, b0, d0⟩ := k0.rows (p := TyC) (q := TyB k) Tryz.underlying22 cTy (by decide) bTy (fun f1 cs' _ hr => ty_b hr)
 obtain ⟨v1, l1, e1, g1, b1, d1⟩ := k1.rows (p := ClC (fun i => i < w.heap.size) w) (q := ClB k) Tryz.underlying23 cCl (by decide) bCl (fun f1 cs' _ hr => cl_b hr)
 simp only [List.drop_zero, List.drop_succ_cons, List.take_succ_cons, List.take_zero, List.cons.injEq, and_true] at e0 e1
 subst e0 e1
 exact ⟨c0, c1, ⟨l0, l1⟩, rfl, g0, g1, ⟨b0, d0⟩, b1, d1⟩
section
variable {H : Type} {enc : TypeId × Value → H} {W W' : World} {v : Value} {d : DataW H} {p : List MemPlace} {ts : List TypeId} {ds : List (DataW H)}
theorem arg_en (h : DataW.Trod enc Tryz.prog W 0 (fun _ => true) true 26 v d p) (hv : ∃ a l c, v = .slice a l c) (hsz : (DataW.weightsEach Tryz.prog ts ds).all (· ≤ reachBytes) = true) (j : Nat) (ht : ts[j]? = some 26) (hd : ds[j]? = some d) :
  ∃ en, EnIn (fun i => i < W.heap.size) W v en ∧ EnB (Rows.uptoBulk d) en ∧ en.length * 40 ≤ 140737488351232 := by
 obtain ⟨fuel, hr⟩ := h
 obtain ⟨v', n, e, h1, ⟨h2, -⟩, h3⟩ := en_b (k := Rows.uptoBulk d) (f := fuel) (w := W) (cs := v.cells.toList) ⟨H, enc, _, hr, fun n hn => by simpa using List.all_eq_true.1 hsz n (DataW.weights_mem_each ht hd n hn), Nat.le_refl _⟩
 obtain ⟨a, l, c, rfl⟩ := hv
 have e2 : v' = .slice a l c := by simpa [Value.cells] using e.symm
 subst e2
 exact ⟨n, h1, h2, h3⟩
theorem arg_sch (h : DataW.Trod enc Tryz.prog W 0 (fun _ => true) true 25 v d p) (hv : ∃ cs, v = .agg cs ∧ cs.size = Tryz.prog.cellsOf 25) (hsz : (DataW.weightsEach Tryz.prog ts ds).all (· ≤ reachBytes) = true) (j : Nat) (ht : ts[j]? = some 25) (hd : ds[j]? = some d) :
  ∃ vt vc s, v = .agg #[vt, vc] ∧ TysIn (fun i => i < W.heap.size) W vt s.tys ∧ ClsIn (fun i => i < W.heap.size) W vc s.cls ∧ SchB (Rows.uptoBulk d) s := by
 obtain ⟨fuel, hr⟩ := h
 obtain ⟨cs, rfl, -⟩ := hv
 obtain ⟨vt, vc, s, e, h1, h2, h3⟩ := sch_b (k := Rows.uptoBulk d) (f := fuel) (w := W) (cs := cs.toList) ⟨H, enc, _, by simpa [Value.cells] using hr, fun n hn => by simpa using List.all_eq_true.1 hsz n (DataW.weights_mem_each ht hd n hn), Nat.le_refl _⟩
 refine ⟨vt, vc, s, ?_, h1, h2, h3⟩
 congr 1
 exact Array.toList_inj.1 e
end
theorem gRng : Tryz.prog.globalNamed "strconv.ErrRange" = some 2 := by kernel_rfl
theorem gRngT : (Tryz.prog.globals[2]?).map (·.type) = some 134 := by kernel_rfl
theorem gTabT : (Tryz.prog.globals[3]?).map (·.type) = some 272 := by kernel_rfl
theorem gs_of {W : World} (h : laidMetH Tryz.prog laid W) : Gs W := by
 have h0 : laidMet Tryz.prog laid W := h
 refine ⟨gl_of h, ?_, ?_⟩
 ·obtain ⟨a, s, hv, -⟩ := laid_sentinel (nm := "*errors.errorString") h0.tail.tail.tail gRng gRngT Tryz.underlying134 rowES Tryz.underlying269 Tryz.underlying271 rfl rfl Tryz.underlying9 cES cS
  exact ⟨_, _, by simpa using World.var?_cell gRng hv 0⟩
 ·have h2 : laidMet Tryz.prog (("internal/strconv.uint64pow10", Lib.tabData .u64 Lib.pow10Tab) :: [("strconv.ErrRange", Rows.laid_strconv_ErrRange), ("strconv.ErrSyntax", Rows.laid_strconv_ErrSyntax)]) W := h0.tail.tail
  exact Lib.tabIs_of_head gTab gTabT Tryz.underlying272 Tryz.underlying242 (by kernel_rfl) (by kernel_rfl) h2
end Go.Proofs.YtgbiicipkbpmeaaGreatDoor.SC
