/-
  Part 35 of the proof: StLw.
-/
import Derived.Test.YtflfmkokfbgclaaGreatRc33
import Derived.Test.YtflfmkokfbgclaaGreatRc34
set_option linter.unusedSimpArgs false
set_option linter.unusedVariables false
namespace Go.Proofs.YtflfmkokfbgclaaGreat.ST
set_option maxRecDepth 100000
open Go.RowKit K L

section
variable {W w w' : World} {b bd : Nat} {O : Nat → Prop} {s : Sd}
theorem Sto.disk (h : Sto W w b bd O s) : ∃ Z, Dk w bd Z s.u ∧ (∀ k, Z k → O k) := by
  obtain ⟨bg, bt, Z, T, h1, h2⟩ := h.split
  exact ⟨Z, h1.a.1, fun k hk => h2 k (.inl hk)⟩
/-- Whatever leaves what it owns alone. -/
theorem Sto.fr {E : Nat → Prop} (h : Sto W w b bd O s) (f : Fr E w w') (hE : ∀ k, O k → ¬ E k) (hW : ∀ k, E k → W.heap.size ≤ k) : Sto W w' b bd O s := by
  obtain ⟨bg, bt, Z, T, h1, h2⟩ := h.split
  have hb : ¬ E b := hE b (h2 b (.inr (.inr (.inl rfl))))
  refine ⟨⟨bg, bt, Z, T, h1.a.fr f (fun k hk => hE k (h2 k (.inl hk))) (hE bg (h2 bg (.inr (.inr (.inr rfl))))), ?_, h1.g, h1.n, h1.z, h2⟩, fun k hk => ⟨(h.ow k hk).1, Nat.lt_of_lt_of_le (h.ow k hk).2 f.size⟩, h.area, h.rok, h.big⟩
  exact h1.c.fr f (fun k hk => ⟨fun e => hE k (h2 k (.inr (.inl e))) hk, fun e => hb (by rw [← e]; exact hk), hW k hk⟩)
/-- The log of a store: where it lies, and what Room tells. -/
theorem Sto.room (h : Sto W w b bd O s) : ∃ bg, w.cell? ⟨b, 1, none⟩ = some (pt bg) ∧ ∀ w', Fr No w w' → Calls Tryz.prog 23 #[pt bg] w' fun e w'' => e = .returned (.int .i64 ((s.g.count : Int) - s.g.next)) ∧ Fr No w' w'' := by
  obtain ⟨bg, bt, Z, T, h1, h2⟩ := h.split
  exact ⟨bg, h1.c.blk.cell 1, fun w' f => room_any (h1.a.no f)⟩
set_option maxHeartbeats 4000000 in
theorem all_any (h : Sto W w b bd O s) (hl : s.l.length ≤ 4398046511104) : Calls Tryz.prog 22 #[pt b] w fun e w' => ∃ pv, e = .returned pv ∧ TR.PrNew w' w.heap.size pv s.l ∧ Fr No w w' := by
  have H := hid h
  have HL := hid hl
  clear h hl
  go_enter Tryz.func22, Tryz.ntmps22
  go_wp2_with fail
  refine (tree_any H.out).mono ?_
  rintro e w1 ⟨rfl, bt, T, rfl, hT, -⟩
  have HT := hid hT
  clear hT
  go_wp2_with fail
  refine (HT.out.all HL.out).mono ?_
  rintro e w2 ⟨pv, rfl, hp, -, f2⟩
  have HP := hid hp; have HF := hid f2
  obtain ⟨pa, pc, rfl, -⟩ := hp
  clear f2
  go_wp2_with fail
  go_ret
  exact ⟨_, rfl, HP.out, HF.out⟩
end
/-- A slice literal of two elements. -/
theorem wpL_buildTwo {P : Program} {ops : Array Oper} {rest : List Oper} {op : Oper} {a : Act} {w : World} {Q : Exit → Act → World → Prop} (hgd : op.guard = none) (t e : TypeId) (x y : Operand) (ho : op.op = .buildSlice t 2 #[(0, x), (1, y)]) (i : TypeInfo) (z : Value)
    (hu : P.underlying t = some (.slice e)) (hi : P.info? e = some i) (hz : i.zero = some z) (hs0 : 0 < i.size) (hs1 : i.size ≤ 1000000)
    (v v' : Value) (cs cs' : List Value) (hv : a.eval x = v) (hv' : a.eval y = v') (hcs : v.cells = cs.toArray) (hcs' : v'.cells = cs'.toArray) (hl : cs.length = i.size) (hl' : cs'.length = i.size)
    (h : ∀ w', Hid (Blk w' w.heap.size e (cs ++ cs')) → Hid (Fr No w w') → Hid (w'.heap.size = w.heap.size + 1) → wpList P ops Q rest (a.put op.dst (.slice (some ⟨w.heap.size, 0, none⟩) 2 2)) w') : wpList P ops Q (op :: rest) a w := by
  refine wpList_plain hgd fun K hK => ?_
  have hrun := run_buildAll (P := P) t e [v, v'] i z hu hi hz hs0 (by simp; omega) (by simp) (by simp [hcs, hcs', hl, hl']) w
  simp only [List.zipIdx_cons, List.zipIdx_nil, List.map_cons, List.map_nil, List.length_cons, List.length_nil, List.flatMap_cons, List.flatMap_nil, List.append_nil, hcs, hcs'] at hrun
  unfold Oper.wp
  simp [execOp, ho, hv, hv', hrun, Result.andThen]
  have hb := hid (Blk.new w e (cs ++ cs'))
  exact hK _ _ (h _ hb (hid ((Fr.refl _ _).alloc _)) (hid (by simp)))
def Ch.small (x : Ch) : Prop := x.key.size ≤ 140737488351232 ∧ x.value.size ≤ 140737488351232
/-- Changes as an argument. -/
def ChArg (w : World) (v : Value) (l : List Ch) : Prop := ∃ a c, v = .slice a l.length c ∧ l.length ≤ c ∧ l.length ≤ 140737488351232 ∧ (∀ x ∈ l, x.small) ∧ ChIn w (fun k => k < w.heap.size) (.slice a l.length c) l
end Go.Proofs.YtflfmkokfbgclaaGreat.ST
