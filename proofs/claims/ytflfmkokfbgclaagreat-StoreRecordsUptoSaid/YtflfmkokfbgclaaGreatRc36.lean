/-
  Part 36 of the proof: StRow.
-/
import Derived.Test.YtflfmkokfbgclaaGreatRc13
import Derived.Test.YtflfmkokfbgclaaGreatRc35
set_option linter.unusedSimpArgs false
set_option linter.unusedVariables false
namespace Go.Proofs.YtflfmkokfbgclaaGreat.ST
set_option maxRecDepth 100000
open Go.ChangeShapes Go.WideShapes Go.ChangeAt Go.RowKit K

theorem cells3 : Tryz.prog.cellsOf 55 = 3 := by kernel_rfl
theorem bytes3 : Tryz.prog.bytesOf 55 = 40 := by kernel_rfl
theorem oneB : Tryz.prog.cellsOf 4 = 1 := by kernel_rfl
theorem chs_range {w : World} {g : Nat} : ∀ (l : List Ch) (o : Nat), (∀ (i : Nat) (x : Ch), l[i]? = some x → w.rangeAt g (o + i * 3) x.cells) → w.rangeAt g o (chs l)
  | [], o, _ => fun j v hj => by simp [chs] at hj
  | x :: r, o, h => by
    have h0 := h 0 x rfl
    have h1 := chs_range r (o + 3) (fun i y hy => by
      have := h (i + 1) y (by simpa using hy)
      rwa [show o + (i + 1) * 3 = o + 3 + i * 3 by omega] at this)
    intro j v hj
    have e : chs (x :: r) = x.cells ++ chs r := rfl
    have hl : x.cells.length = 3 := rfl
    rw [e] at hj
    rcases Nat.lt_or_ge j 3 with hlt | hge
    · rw [List.getElem?_append_left (by omega)] at hj
      have := h0 j v hj
      simpa using this
    · rw [List.getElem?_append_right (by omega), hl] at hj
      have := h1 (j - 3) v hj
      rwa [show o + 3 + (j - 3) = o + j by omega] at this
theorem change_of {w : World} {cs : List Value} (h : Reads Tryz.prog w 55 cs) : ∃ x : Ch, cs = x.cells ∧ x.small := by
  obtain ⟨hl, hf⟩ := h.struct Tryz.underlying55
  rw [cells3] at hl
  obtain ⟨c0, c1, c2, rfl⟩ : ∃ c0 c1 c2, cs = [c0, c1, c2] := by
    match cs, hl with
    | [c0, c1, c2], _ => exact ⟨c0, c1, c2, rfl⟩
  have f0 : Reads Tryz.prog w 9 (([c0, c1, c2].drop 0).take (Tryz.prog.cellsOf 9)) := hf 0 _ rfl
  have f1 : Reads Tryz.prog w 9 (([c0, c1, c2].drop 1).take (Tryz.prog.cellsOf 9)) := hf 1 _ rfl
  have f2 : Reads Tryz.prog w 4 (([c0, c1, c2].drop 2).take (Tryz.prog.cellsOf 4)) := hf 2 _ rfl
  rw [TR.one9] at f0 f1
  rw [oneB] at f2
  obtain ⟨s, e0, h0⟩ := f0.string Tryz.underlying9
  obtain ⟨t, e1, h1⟩ := f1.string Tryz.underlying9
  obtain ⟨q, e2⟩ := f2.bool Tryz.underlying4
  simp only [List.drop_zero, List.drop_succ_cons, List.take_succ_cons, List.take_zero, List.cons.injEq, and_true] at e0 e1 e2
  subst e0 e1 e2
  exact ⟨⟨s, t, q⟩, rfl, h0, h1⟩
theorem changes_of {w : World} {cs : List Value} (h : Reads Tryz.prog w 22 cs) : ∃ v l, cs = [v] ∧ ChArg w v l := by
  rcases h.slice Tryz.underlying22 with rfl | ⟨a, len, cap, rfl, hl, hlc, hb, hel⟩
  · exact ⟨_, [], rfl, none, 0, rfl, by simp, by simp, fun x hx => (by cases hx), _, 0, rfl, .inl rfl⟩
  · rw [bytes3] at hb
    have hr : reachBytes = 140737488351232 := rfl
    rw [hr] at hb
    rw [cells3] at hel
    obtain ⟨xs, hxl, hxs⟩ := list_of (p := fun i (x : Ch) => x.small ∧ ∀ j v, x.cells[j]? = some v → w.cell? (a.add (i * 3 + j)) = some v) len (fun i hi => by
      obtain ⟨cs', _, h2, h3⟩ := hel i (by omega)
      obtain ⟨x, rfl, hs⟩ := change_of h3
      exact ⟨x, hs, h2⟩)
    have hsm : ∀ x ∈ xs, x.small := fun x hx => by
      obtain ⟨i, hi⟩ := List.getElem?_of_mem hx
      exact (hxs i x hi).1
    refine ⟨_, xs, rfl, some a, cap, by rw [hxl], by omega, by omega, hsm, some a, cap, rfl, ?_⟩
    cases hx : xs with
    | nil => exact .inl rfl
    | cons y r =>
      obtain ⟨g, o, rfl, hg⟩ := addr_of ((hxs 0 y (by rw [hx]; rfl)).2 0 _ rfl)
      refine .inr ⟨g, o, rfl, hg, hg, chs_range _ _ (fun i x hi j v hj => ?_)⟩
      have := (hxs i x (by rw [hx]; exact hi)).2 j v hj
      rwa [Addr.add_mid, ← Nat.add_assoc] at this
section
variable {H : Type} {enc : TypeId × Value → H} {W W' : World} {v : Value} {d : DataW H} {p : List MemPlace} {ts : List TypeId} {ds : List (DataW H)}
theorem arg_changes (h : DataW.Trod enc Tryz.prog W 0 (fun _ => true) true 22 v d p) (hv : ∃ a l c, v = .slice a l c) (hsz : (DataW.weightsEach Tryz.prog ts ds).all (· ≤ reachBytes) = true) (j : Nat) (ht : ts[j]? = some 22) (hd : ds[j]? = some d) :
    ∃ l, ChArg W v l := by
  obtain ⟨v', l, e, hx⟩ := changes_of (reads_of h hsz j ht hd)
  obtain ⟨a, n, c, rfl⟩ := hv
  simp [Value.cells] at e
  subst e
  exact ⟨l, hx⟩
end
end Go.Proofs.YtflfmkokfbgclaaGreat.ST
