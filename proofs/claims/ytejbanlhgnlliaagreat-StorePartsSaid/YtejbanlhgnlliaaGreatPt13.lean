/-
  Part 13 of the proof: TrRow.
-/
import Derived.Test.YtejbanlhgnlliaaGreatRows
import Derived.Test.YtejbanlhgnlliaaGreatPt00
import Derived.Test.YtejbanlhgnlliaaGreatPt12
import Derived.WalkKit
import Derived.ProofKit
import Derived.OpenShut
import Derived.ChangeOld
import Derived.Below
import Derived.SizedLaws
namespace Go.Proofs.YtejbanlhgnlliaaGreat.TR
set_option maxRecDepth 100000
open Go.ChangeShapes Go.WideShapes Go.ChangeAt Go.RowKit K

theorem owns : ownKnob Tryz.prog.godebug = none := by kernel_rfl
theorem laidOut : laidOutB Tryz.prog = true := by kernel_rfl
theorem i64_of {n : Int} (h : (Lit.int .i64 n).wf = true) : -9223372036854775808 ≤ n ∧ n ≤ 9223372036854775807 := by
  simpa [Lit.wf, IntKind.min, IntKind.signed, IntKind.bits] using h
section
variable {H : Type} {enc : TypeId × Value → H} {W W' : World} {v : Value} {d : DataW H} {p : List MemPlace} {ts : List TypeId} {ds : List (DataW H)}
theorem arg_text {t : TypeId} (hu : Tryz.prog.underlying t = some .string) (h : DataW.Trod enc Tryz.prog W 0 (fun _ => true) true t v d p) (hv : ∃ s, v = .string s) (hsz : (DataW.weightsEach Tryz.prog ts ds).all (· ≤ reachBytes) = true) (j : Nat) (ht : ts[j]? = some t) (hd : ds[j]? = some d) :
    ∃ s, v = .string s ∧ s.size ≤ 140737488351232 := by
  obtain ⟨s, e, hs⟩ := (reads_of h hsz j ht hd).string hu
  obtain ⟨s', rfl⟩ := hv
  simp [Value.cells] at e
  subst e
  exact ⟨s', rfl, hs⟩
/-- What was there reads behind the call as before. -/
theorem again {t : TypeId} (hr : Tryz.prog.readableRec t = true) (hrow : t < Tryz.prog.types.size) (h : DataW.Trod enc Tryz.prog W 0 (fun _ => true) true t v d p) (hb : Go.RowKit.Below W.heap.size W W') : DataW.Trod enc Tryz.prog W' 0 (fun b => decide (b < W.heap.size)) true t v d p :=
  Go.RowKit.Below.trod laidOut hr hrow h hb (by obtain ⟨m, hm⟩ := h; exact DataW.trod_lt m _ _ _ hm)
end
theorem one9 : Tryz.prog.cellsOf 9 = 1 := by kernel_rfl
theorem cells2 : Tryz.prog.cellsOf 71 = 2 := by kernel_rfl
theorem bytes2 : Tryz.prog.bytesOf 71 = 32 := by kernel_rfl
theorem bytes9 : Tryz.prog.bytesOf 9 = 16 := by kernel_rfl
theorem pcs_range {w : World} {g : Nat} : ∀ (l : L) (o : Nat), (∀ (i : Nat) (x : S × S), l[i]? = some x → w.rangeAt g (o + i * 2) (pc x)) → w.rangeAt g o (pcs l)
  | [], o, _ => fun j v hj => by simp [pcs] at hj
  | x :: r, o, h => by
    have h0 := h 0 x rfl
    have h1 := pcs_range r (o + 2) (fun i y hy => by
      have := h (i + 1) y (by simpa using hy)
      rwa [show o + (i + 1) * 2 = o + 2 + i * 2 by omega] at this)
    intro j v hj
    have e : pcs (x :: r) = pc x ++ pcs r := rfl
    have hl : (pc x).length = 2 := rfl
    rw [e] at hj
    rcases Nat.lt_or_ge j 2 with hlt | hge
    · rw [List.getElem?_append_left (by omega)] at hj
      have := h0 j v hj
      simpa using this
    · rw [List.getElem?_append_right (by omega), hl] at hj
      have := h1 (j - 2) v hj
      rwa [show o + 2 + (j - 2) = o + j by omega] at this
theorem pair_of {w : World} {cs : List Value} (h : Reads Tryz.prog w 71 cs) : ∃ x : S × S, cs = pc x := by
  obtain ⟨hl, hf⟩ := h.struct Tryz.underlying71
  rw [cells2] at hl
  obtain ⟨c0, c1, rfl⟩ : ∃ c0 c1, cs = [c0, c1] := by
    match cs, hl with
    | [c0, c1], _ => exact ⟨c0, c1, rfl⟩
  have f0 : Reads Tryz.prog w 9 (([c0, c1].drop 0).take (Tryz.prog.cellsOf 9)) := hf 0 _ rfl
  have f1 : Reads Tryz.prog w 9 (([c0, c1].drop 1).take (Tryz.prog.cellsOf 9)) := hf 1 _ rfl
  rw [one9] at f0 f1
  obtain ⟨s, e0, _⟩ := f0.string Tryz.underlying9
  obtain ⟨t, e1, _⟩ := f1.string Tryz.underlying9
  simp only [List.drop_zero, List.drop_succ_cons, List.take_succ_cons, List.take_zero, List.cons.injEq, and_true] at e0 e1
  subst e0 e1
  exact ⟨(s, t), rfl⟩
theorem pairs_of {w : World} {cs : List Value} (h : Reads Tryz.prog w 39 cs) : ∃ v l, cs = [v] ∧ PrAt w v l := by
  rcases h.slice Tryz.underlying39 with rfl | ⟨a, len, cap, rfl, hl, _, hb, hel⟩
  · exact ⟨_, [], rfl, none, 0, rfl, by simp, .inl rfl⟩
  · rw [bytes2] at hb
    have hr : reachBytes = 140737488351232 := rfl
    rw [hr] at hb
    rw [cells2] at hel
    obtain ⟨xs, hxl, hxs⟩ := list_of (p := fun i (x : S × S) => ∀ j v, (pc x)[j]? = some v → w.cell? (a.add (i * 2 + j)) = some v) len (fun i hi => by
      obtain ⟨cs', _, h2, h3⟩ := hel i (by omega)
      obtain ⟨x, rfl⟩ := pair_of h3
      exact ⟨x, h2⟩)
    refine ⟨_, xs, rfl, some a, cap, by rw [hxl], by omega, ?_⟩
    cases hx : xs with
    | nil => exact .inl rfl
    | cons y r =>
      obtain ⟨g, o, rfl, hg⟩ := addr_of (hxs 0 y (by rw [hx]; rfl) 0 _ rfl)
      refine .inr ⟨g, o, rfl, pcs_range _ _ (fun i x hi j v hj => ?_), hg⟩
      have := hxs i x (by rw [hx]; exact hi) j v hj
      rwa [Addr.add_mid, ← Nat.add_assoc] at this
/-- Texts in memory. -/
def StAt (w : World) (v : Value) (l : List S) : Prop := ∃ a c, v = .slice a l.length c ∧ l.length ≤ 140737488351232 ∧ (l = [] ∨ ∃ g o, a = some ⟨g, o, none⟩ ∧ g < w.heap.size ∧ w.rangeAt g o (l.map Value.string))
theorem StAt.no {w w' : World} {v : Value} {l : List S} (h : StAt w v l) (hf : Fr No w w') : StAt w' v l := by
  obtain ⟨a, c, e, hn, h⟩ := h
  refine ⟨a, c, e, hn, h.imp id ?_⟩
  rintro ⟨g, o, e, hg, hr⟩
  exact ⟨g, o, e, Nat.lt_of_lt_of_le hg hf.size, hf.range hr id⟩
theorem strs_of {w : World} {cs : List Value} (h : Reads Tryz.prog w 118 cs) : ∃ v l, cs = [v] ∧ StAt w v l := by
  obtain ⟨a, len, cap, xs, rfl, hl, hb, _, hr⟩ := h.row Value.string Tryz.underlying118 one9 (fun cs' h' => by
    obtain ⟨s, rfl, hs⟩ := h'.string Tryz.underlying9
    exact ⟨s, rfl⟩)
  have hrb : reachBytes = 140737488351232 := rfl
  rw [bytes9, hrb] at hb
  refine ⟨_, xs, rfl, a, cap, by rw [hl], by omega, ?_⟩
  rcases hr with h0 | ⟨g, o, h1, h2, h3⟩
  · exact .inl (List.eq_nil_of_length_eq_zero (by omega))
  · exact .inr ⟨g, o, h1, h2, h3⟩
section
variable {H : Type} {enc : TypeId × Value → H} {W W' : World} {v : Value} {d : DataW H} {p : List MemPlace} {ts : List TypeId} {ds : List (DataW H)}
theorem arg_pairs (h : DataW.Trod enc Tryz.prog W 0 (fun _ => true) true 39 v d p) (hv : ∃ a l c, v = .slice a l c) (hsz : (DataW.weightsEach Tryz.prog ts ds).all (· ≤ reachBytes) = true) (j : Nat) (ht : ts[j]? = some 39) (hd : ds[j]? = some d) :
    ∃ l, PrAt W v l := by
  obtain ⟨v', l, e, hx⟩ := pairs_of (reads_of h hsz j ht hd)
  obtain ⟨a, n, c, rfl⟩ := hv
  simp [Value.cells] at e
  subst e
  exact ⟨l, hx⟩
theorem arg_strs (h : DataW.Trod enc Tryz.prog W 0 (fun _ => true) true 118 v d p) (hv : ∃ a l c, v = .slice a l c) (hsz : (DataW.weightsEach Tryz.prog ts ds).all (· ≤ reachBytes) = true) (j : Nat) (ht : ts[j]? = some 118) (hd : ds[j]? = some d) :
    ∃ l, StAt W v l := by
  obtain ⟨v', l, e, hx⟩ := strs_of (reads_of h hsz j ht hd)
  obtain ⟨a, n, c, rfl⟩ := hv
  simp [Value.cells] at e
  subst e
  exact ⟨l, hx⟩
end
end Go.Proofs.YtejbanlhgnlliaaGreat.TR
