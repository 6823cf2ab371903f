/-
  The arguments of this program's laws, as data.
-/
import Derived.Test.YtjlellehlcidnaaOpen
import Derived.Test.YtjlellehlcidnaaPlay
namespace Go.Proofs.Ytjlellehlcidnaa.D
open Go.RowKit K

theorem reads_of {H : Type} {enc : TypeId × Value → H} {P : Program} {W : World} {t : TypeId} {v : Value} {d : DataW H} {p : List MemPlace} {ts : List TypeId} {ds : List (DataW H)}
    (h : DataW.Trod enc P W 0 (fun _ => true) true t v d p) (hsz : (DataW.weightsEach P ts ds).all (· ≤ reachBytes) = true) (j : Nat) (ht : ts[j]? = some t) (hd : ds[j]? = some d) : Reads P W t v.cells.toList := by
  obtain ⟨fuel, h⟩ := h
  exact ⟨H, enc, fuel, _, h, fun n hn => by simpa using List.all_eq_true.1 hsz n (DataW.weights_mem_each ht hd n hn)⟩
theorem reach : reachBytes = 140737488351232 := rfl
theorem one8 : Try.prog.cellsOf 5 = 1 := by kernel_rfl
theorem one4 : Try.prog.cellsOf 4 = 1 := by kernel_rfl
theorem one32 : Try.prog.cellsOf 32 = 1 := by kernel_rfl
theorem one33 : Try.prog.cellsOf 33 = 1 := by kernel_rfl
theorem one3 : Try.prog.cellsOf 3 = 1 := by kernel_rfl
theorem four35 : Try.prog.cellsOf 35 = 4 := by kernel_rfl
theorem by8 : Try.prog.bytesOf 5 = 1 := by kernel_rfl
theorem by4 : Try.prog.bytesOf 4 = 1 := by kernel_rfl
theorem by35 : 1 ≤ Try.prog.bytesOf 35 := of_decide_eq_true (by kernel_rfl)
theorem by32 : 1 ≤ Try.prog.bytesOf 32 := of_decide_eq_true (by kernel_rfl)
theorem le64 {n : Int} (h : (Lit.int .i64 n).wf = true) : -9223372036854775808 ≤ n ∧ n ≤ 9223372036854775807 := by
  simpa [Lit.wf, IntKind.min, IntKind.signed, IntKind.bits] using h

theorem bytes_of {w : World} {cs : List Value} (h : Reads Try.prog w 32 cs) : ∃ v bs, cs = [v] ∧ BytesIn w (fun k => k < w.heap.size) v bs ∧ bs.length ≤ 140737488351232 := by
  obtain ⟨a, len, cap, xs, rfl, hl, hb, _, hr⟩ := h.row (Value.int .u8) Try.underlying32 one8 (fun cs' h' => by obtain ⟨n, e, _⟩ := h'.int Try.underlying5; exact ⟨n, e⟩)
  rw [by8, reach, Nat.mul_one] at hb
  exact ⟨_, xs, rfl, ⟨a, len, cap, rfl, hl, hr.imp id fun ⟨g, o, h1, h2, h3⟩ => ⟨g, o, h1, h2, h2, h3⟩⟩, by omega⟩
theorem bools_of {w : World} {cs : List Value} (h : Reads Try.prog w 33 cs) : ∃ v bs, cs = [v] ∧ BoolsIn w (fun k => k < w.heap.size) v bs ∧ bs.length ≤ 140737488351232 := by
  obtain ⟨a, len, cap, xs, rfl, hl, hb, _, hr⟩ := h.row Value.bool Try.underlying33 one4 (fun cs' h' => h'.bool Try.underlying4)
  rw [by4, reach, Nat.mul_one] at hb
  exact ⟨_, xs, rfl, ⟨a, len, cap, rfl, hl, hr.imp id fun ⟨g, o, h1, h2, h3⟩ => ⟨g, o, h1, h2, h2, h3⟩⟩, by omega⟩
theorem act_of {w : World} {cs : List Value} (h : Reads Try.prog w 35 cs) : ∃ bv kv x, cs = ActIn.cells bv kv x ∧ ActIn w w.heap.size bv kv x := by
  obtain ⟨hl, hf⟩ := h.struct Try.underlying35
  rw [four35] at hl
  obtain ⟨c0, c1, c2, c3, rfl⟩ : ∃ c0 c1 c2 c3, cs = [c0, c1, c2, c3] := by
    match cs, hl with
    | [c0, c1, c2, c3], _ => exact ⟨c0, c1, c2, c3, rfl⟩
  have f0 : Reads Try.prog w 3 (([c0, c1, c2, c3].drop 0).take (Try.prog.cellsOf 3)) := hf 0 _ rfl
  have f1 : Reads Try.prog w 3 (([c0, c1, c2, c3].drop 1).take (Try.prog.cellsOf 3)) := hf 1 _ rfl
  have f2 : Reads Try.prog w 32 (([c0, c1, c2, c3].drop 2).take (Try.prog.cellsOf 32)) := hf 2 _ rfl
  have f3 : Reads Try.prog w 33 (([c0, c1, c2, c3].drop 3).take (Try.prog.cellsOf 33)) := hf 3 _ rfl
  rw [one3] at f0 f1
  rw [one32] at f2
  rw [one33] at f3
  obtain ⟨how, e0, _⟩ := f0.int Try.underlying3
  obtain ⟨at_, e1, w1⟩ := f1.int Try.underlying3
  obtain ⟨bv, bs, e2, hb, hbl⟩ := bytes_of f2
  obtain ⟨kv, keep, e3, hk, hkl⟩ := bools_of f3
  simp only [List.drop_zero, List.drop_succ_cons, List.take_succ_cons, List.take_zero, List.cons.injEq, and_true] at e0 e1 e2 e3
  subst e0 e1 e2 e3
  exact ⟨_, _, ⟨how, at_, bs, keep⟩, rfl, hb, hk, (le64 w1).2, hbl, hkl⟩
theorem acts_of {w : World} {cs : List Value} (h : Reads Try.prog w 22 cs) : ∃ v xs, cs = [v] ∧ ActsIn w w.heap.size v xs := by
  rcases h.slice Try.underlying22 with rfl | ⟨a, len, cap, rfl, hl, _, hb, hel⟩
  · exact ⟨_, [], rfl, none, 0, 0, rfl, rfl, by decide, fun i x hi => by simp at hi⟩
  · rw [reach] at hb
    have hcap : cap ≤ 140737488351232 := Nat.le_trans (Nat.le_mul_of_pos_right _ by35) hb
    rw [four35] at hel
    obtain ⟨xs, hxl, hxs⟩ := list_of (p := fun i (x : Value × Value × Actd) => (∀ j v, (ActIn.cells x.1 x.2.1 x.2.2)[j]? = some v → w.cell? (a.add (i * 4 + j)) = some v) ∧ ActIn w w.heap.size x.1 x.2.1 x.2.2) len (fun i hi => by
      obtain ⟨cs', _, h2, h3⟩ := hel i (by omega)
      obtain ⟨bv, kv, x, rfl, hx⟩ := act_of h3
      exact ⟨(bv, kv, x), h2, hx⟩)
    refine ⟨_, xs.map (·.2.2), rfl, some a, len, cap, rfl, by simpa using hxl, by omega, fun i x hi => ?_⟩
    rw [List.getElem?_map] at hi
    obtain ⟨⟨bv, kv, y⟩, hy, rfl⟩ := Option.map_eq_some_iff.1 hi
    obtain ⟨h1, h2⟩ := hxs i _ hy
    have hil : 0 < xs.length := by have := (List.getElem?_eq_some_iff.1 hy).1; omega
    obtain ⟨g, o, rfl, hg⟩ := addr_of ((hxs 0 _ (List.getElem?_eq_getElem hil)).1 0 _ rfl)
    refine ⟨g, o, bv, kv, rfl, hg, fun j v hj => ?_, h2⟩
    have := h1 j v hj
    rwa [Addr.add_mid, ← Nat.add_assoc] at this
end Go.Proofs.Ytjlellehlcidnaa.D
