/-
  The acts of the laws, as data; and the states of LogLasts.
-/
import Derived.Test.YtlnolnaapnijbaaLogG
import Derived.Test.YtlnolnaapnijbaaLogZ
namespace Go.Proofs.Ytlnolnaapnijbaa.L
set_option maxRecDepth 100000
open Go.RowKit K

structure La where
  how : Int
  at_ : Int
  n : Int
  txt : ByteArray
  ep : Nat
  li : Nat
  keep : List Bool
def La.cells (kv : Value) (x : La) : List Value := [.int .i64 x.how, .int .i64 x.at_, .int .i64 x.n, .string x.txt, .int .u32 x.ep, .int .u32 x.li, kv]
/-- An act's value reads so: its slice lies below B. -/
structure LaIn (w : World) (B : Nat) (kv : Value) (x : La) : Prop where
  k : D.BoolsIn w (fun k => k < B) kv x.keep
  at0 : -9223372036854775808 ≤ x.at_
  at1 : x.at_ ≤ 9223372036854775807
  n0 : -9223372036854775808 ≤ x.n
  n1 : x.n ≤ 9223372036854775807
  rl : x.txt.size ≤ 140737488351232
  ep : x.ep < 4294967296
  li : x.li < 4294967296
  kl : x.keep.length ≤ 140737488351232
theorem LaIn.fr {w w' : World} {B : Nat} {kv : Value} {x : La} (h : LaIn w B kv x) {D : Nat → Prop} (hf : Fr D w w') (hd : ∀ k, k < B → ¬ D k) : LaIn w' B kv x :=
  ⟨h.k.fr hf (fun k h1 _ => hd k h1), h.at0, h.at1, h.n0, h.n1, h.rl, h.ep, h.li, h.kl⟩
/-- A slice of acts, as data: it lies below B. -/
def LasIn (w : World) (B : Nat) (v : Value) (xs : List La) : Prop :=
  ∃ a len cap, v = .slice a len cap ∧ xs.length = len ∧ len ≤ 140737488351232 ∧ ∀ (i : Nat) (x : La), xs[i]? = some x → ∃ g o kv, a = some ⟨g, o, none⟩ ∧ g < B ∧ w.rangeAt g (o + i * 7) (La.cells kv x) ∧ LaIn w B kv x
theorem LasIn.fr {w w' : World} {B : Nat} {v : Value} {xs : List La} (h : LasIn w B v xs) {D : Nat → Prop} (hf : Fr D w w') (hd : ∀ k, k < B → ¬ D k) : LasIn w' B v xs := by
  obtain ⟨a, len, cap, h1, h2, h3, h4⟩ := h
  refine ⟨a, len, cap, h1, h2, h3, fun i x hi => ?_⟩
  obtain ⟨g, o, kv, r1, r2, r3, r4⟩ := h4 i x hi
  exact ⟨g, o, kv, r1, r2, hf.range r3 (hd g r2), r4.fr hf hd⟩
theorem infoAct : (Try.prog.info? 39).map (·.size) = some 7 := by kernel_rfl
theorem zeroAct (w : World) : (zeroValue 39).run Try.prog w = .ok (.agg #[.int .i64 0, .int .i64 0, .int .i64 0, .string ⟨#[]⟩, .int .u32 0, .int .u32 0, .slice none 0 0]) w := by kernel_rfl
theorem cells7 : Try.prog.cellsOf 39 = 7 := by kernel_rfl
theorem bytes7 : 1 ≤ Try.prog.bytesOf 39 := of_decide_eq_true (by kernel_rfl)
theorem one3 : Try.prog.cellsOf 3 = 1 := by kernel_rfl
theorem one9 : Try.prog.cellsOf 9 = 1 := by kernel_rfl
theorem one22 : Try.prog.cellsOf 22 = 1 := by kernel_rfl
theorem one37 : Try.prog.cellsOf 37 = 1 := by kernel_rfl
theorem one4 : Try.prog.cellsOf 4 = 1 := by kernel_rfl
theorem by4 : Try.prog.bytesOf 4 = 1 := by kernel_rfl
theorem reach : reachBytes = 140737488351232 := rfl
theorem le64 {n : Int} (h : (Lit.int .i64 n).wf = true) : -9223372036854775808 ≤ n ∧ n ≤ 9223372036854775807 := by
  simpa [Lit.wf, IntKind.min, IntKind.max, IntKind.signed, IntKind.bits] using h
theorem le32 {n : Int} (h : (Lit.int .u32 n).wf = true) : ∃ s : Nat, n = (s : Int) ∧ s < 4294967296 := by
  have hb : 0 ≤ n ∧ n ≤ 4294967295 := by simpa [Lit.wf, IntKind.min, IntKind.max, IntKind.signed, IntKind.bits] using h
  exact ⟨n.toNat, by omega, by omega⟩
theorem bools_of {w : World} {cs : List Value} (h : Reads Try.prog w 37 cs) : ∃ v bs, cs = [v] ∧ D.BoolsIn w (fun k => k < w.heap.size) v bs ∧ bs.length ≤ 140737488351232 := by
  obtain ⟨a, len, cap, xs, rfl, hl, hb, _, hr⟩ := h.row Value.bool Try.underlying37 one4 (fun cs' h' => h'.bool Try.underlying4)
  rw [by4, reach, Nat.mul_one] at hb
  exact ⟨_, xs, rfl, ⟨a, len, cap, rfl, hl, hr.imp id fun ⟨g, o, h1, h2, h3⟩ => ⟨g, o, h1, h2, h2, h3⟩⟩, by omega⟩
theorem act_of {w : World} {cs : List Value} (h : Reads Try.prog w 39 cs) : ∃ kv x, cs = La.cells kv x ∧ LaIn w w.heap.size kv x := by
  obtain ⟨hl, hf⟩ := h.struct Try.underlying39
  rw [cells7] at hl
  obtain ⟨c0, c1, c2, c3, c4, c5, c6, rfl⟩ : ∃ c0 c1 c2 c3 c4 c5 c6, cs = [c0, c1, c2, c3, c4, c5, c6] := by
    match cs, hl with
    | [c0, c1, c2, c3, c4, c5, c6], _ => exact ⟨c0, c1, c2, c3, c4, c5, c6, rfl⟩
  have f0 : Reads Try.prog w 3 (([c0, c1, c2, c3, c4, c5, c6].drop 0).take (Try.prog.cellsOf 3)) := hf 0 _ rfl
  have f1 : Reads Try.prog w 3 (([c0, c1, c2, c3, c4, c5, c6].drop 1).take (Try.prog.cellsOf 3)) := hf 1 _ rfl
  have f2 : Reads Try.prog w 3 (([c0, c1, c2, c3, c4, c5, c6].drop 2).take (Try.prog.cellsOf 3)) := hf 2 _ rfl
  have f3 : Reads Try.prog w 9 (([c0, c1, c2, c3, c4, c5, c6].drop 3).take (Try.prog.cellsOf 9)) := hf 3 _ rfl
  have f4 : Reads Try.prog w 22 (([c0, c1, c2, c3, c4, c5, c6].drop 4).take (Try.prog.cellsOf 22)) := hf 4 _ rfl
  have f5 : Reads Try.prog w 22 (([c0, c1, c2, c3, c4, c5, c6].drop 5).take (Try.prog.cellsOf 22)) := hf 5 _ rfl
  have f6 : Reads Try.prog w 37 (([c0, c1, c2, c3, c4, c5, c6].drop 6).take (Try.prog.cellsOf 37)) := hf 6 _ rfl
  rw [one3] at f0 f1 f2
  rw [one9] at f3
  rw [one22] at f4 f5
  rw [one37] at f6
  obtain ⟨how, e0, _⟩ := f0.int Try.underlying3
  obtain ⟨at_, e1, w1⟩ := f1.int Try.underlying3
  obtain ⟨n, e2, w2⟩ := f2.int Try.underlying3
  obtain ⟨s, e3, hs⟩ := f3.string Try.underlying9
  obtain ⟨ep, e4, w4⟩ := f4.int Try.underlying22
  obtain ⟨li, e5, w5⟩ := f5.int Try.underlying22
  obtain ⟨kv, keep, e6, hk, hkl⟩ := bools_of f6
  obtain ⟨ep', rfl, hep⟩ := le32 w4
  obtain ⟨li', rfl, hli⟩ := le32 w5
  simp only [List.drop_zero, List.drop_succ_cons, List.take_succ_cons, List.take_zero, List.cons.injEq, and_true] at e0 e1 e2 e3 e4 e5 e6
  subst e0 e1 e2 e3 e4 e5 e6
  exact ⟨_, ⟨how, at_, n, s, ep', li', keep⟩, rfl, hk, (le64 w1).1, (le64 w1).2, (le64 w2).1, (le64 w2).2, hs, hep, hli, hkl⟩
theorem acts_of {w : World} {cs : List Value} (h : Reads Try.prog w 23 cs) : ∃ v xs, cs = [v] ∧ LasIn w w.heap.size v xs := by
  rcases h.slice Try.underlying23 with rfl | ⟨a, len, cap, rfl, hl, _, hb, hel⟩
  · exact ⟨_, [], rfl, none, 0, 0, rfl, rfl, by decide, fun i x hi => by simp at hi⟩
  · rw [reach] at hb
    have hcap : cap ≤ 140737488351232 := Nat.le_trans (Nat.le_mul_of_pos_right _ bytes7) hb
    rw [cells7] at hel
    obtain ⟨xs, hxl, hxs⟩ := list_of (p := fun i (x : Value × La) => (∀ j v, (La.cells x.1 x.2)[j]? = some v → w.cell? (a.add (i * 7 + j)) = some v) ∧ LaIn w w.heap.size x.1 x.2) len (fun i hi => by
      obtain ⟨cs', _, h2, h3⟩ := hel i (by omega)
      obtain ⟨kv, x, rfl, hx⟩ := act_of h3
      exact ⟨(kv, x), h2, hx⟩)
    refine ⟨_, xs.map (·.2), rfl, some a, len, cap, rfl, by simpa using hxl, by omega, fun i x hi => ?_⟩
    rw [List.getElem?_map] at hi
    obtain ⟨⟨kv, y⟩, hy, rfl⟩ := Option.map_eq_some_iff.1 hi
    obtain ⟨h1, h2⟩ := hxs i _ hy
    have hil : 0 < xs.length := by have := (List.getElem?_eq_some_iff.1 hy).1; omega
    obtain ⟨g, o, rfl, hg⟩ := addr_of ((hxs 0 _ (List.getElem?_eq_getElem hil)).1 0 _ rfl)
    refine ⟨g, o, kv, rfl, hg, fun j v hj => ?_, h2⟩
    have := h1 j v hj
    rwa [Addr.add_mid, ← Nat.add_assoc] at this

end Go.Proofs.Ytlnolnaapnijbaa.L
