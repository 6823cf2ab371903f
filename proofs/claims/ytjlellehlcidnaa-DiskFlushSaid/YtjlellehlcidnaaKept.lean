/-
  A disk in a law, and beside it a row of four answers that the law keeps.
-/
import Derived.Test.YtjlellehlcidnaaAwake
namespace Go.Proofs.Ytjlellehlcidnaa.D
open Go.RowKit K

/-- A disk (w0: the world at the law's start), and in block bb the first n of four slices of bytes, which f names. -/
def Kept (w0 : World) (bb n : Nat) (f : Nat → List Int) (w : World) (bd : Nat) (s : St) : Prop :=
  ∃ (Kp : Nat → Prop) (cs : List Value), Ow w0 Kp w bd s ∧ Kp bb ∧ w0.heap.size ≤ bb ∧ Blk w bb 50 cs ∧ cs.length = 4 ∧ ∀ j, j < n → ∃ v, cs[j]? = some v ∧ BytesIn w (fun k => Kp k ∧ k ≠ bb) v (f j)
/-- The same, and one more slice of bytes. -/
def KeptV (w0 : World) (bb n : Nat) (f : Nat → List Int) (w : World) (bd : Nat) (s : St) (v : Value) (xs : List Int) : Prop :=
  ∃ (Kp : Nat → Prop) (cs : List Value), Ow w0 Kp w bd s ∧ Kp bb ∧ w0.heap.size ≤ bb ∧ Blk w bb 50 cs ∧ cs.length = 4 ∧ (∀ j, j < n → ∃ v, cs[j]? = some v ∧ BytesIn w (fun k => Kp k ∧ k ≠ bb) v (f j)) ∧ BytesIn w (fun k => Kp k ∧ k ≠ bb) v xs

section
variable {w0 w w' : World} {bb n bd : Nat} {f : Nat → List Int} {s : St} {v : Value} {xs : List Int}
theorem kept_new {cs : List Value} (h : Ow w0 No w bd s) (hB : Blk w' w.heap.size 50 cs) (hc : cs.length = 4) (hf : Fr No w w') : Kept w0 w.heap.size 0 f w' bd s :=
  ⟨Mo No w w', cs, h.more hf, .inr ⟨Nat.le_refl _, hB.lt⟩, h.fr.size, hB, hc, fun j hj => by omega⟩
theorem KeptV.kept (h : KeptV w0 bb n f w bd s v xs) : Kept w0 bb n f w bd s := by
  obtain ⟨Kp, cs, h1, h2, h3, h4, h5, h6, _⟩ := h
  exact ⟨Kp, cs, h1, h2, h3, h4, h5, h6⟩
theorem KeptV.bytes (h : KeptV w0 bb n f w bd s v xs) : BytesIn w (fun _ => True) v xs := by
  obtain ⟨Kp, cs, _, _, _, _, _, _, h7⟩ := h
  exact h7.mono fun _ _ => trivial
theorem Kept.ow (h : Kept w0 bb n f w bd s) : ∃ Kp, Ow w0 Kp w bd s := by
  obtain ⟨Kp, cs, h1, _⟩ := h
  exact ⟨Kp, h1⟩
theorem Kept.no (h : Kept w0 bb n f w bd s) (hf : Fr No w w') : Kept w0 bb n f w' bd s := by
  obtain ⟨Kp, cs, h1, h2, h3, h4, h5, h6⟩ := h
  exact ⟨Kp, cs, h1.later hf, h2, h3, h4.fr hf id, h5, fun j hj => by
    obtain ⟨v, r1, r2⟩ := h6 j hj
    exact ⟨v, r1, r2.fr hf fun _ _ _ e => e⟩⟩
theorem Kept.load (h : Kept w0 bb n f w bd s) {j : Nat} (hj : j < n) : ∃ v, w.cell? ⟨bb, j, none⟩ = some v ∧ BytesIn w (fun _ => True) v (f j) := by
  obtain ⟨Kp, cs, h1, h2, h3, h4, h5, h6⟩ := h
  obtain ⟨v, r1, r2⟩ := h6 j hj
  exact ⟨v, by rw [h4.cell, r1], r2.mono fun _ _ => trivial⟩
theorem Kept.cell (h : Kept w0 bb n f w bd s) {j : Nat} (hj : j < 4) : (∃ u, w.cell? ⟨bb, j, none⟩ = some u) ∧ w.frozen? ⟨bb, j, none⟩ = false := by
  obtain ⟨Kp, cs, h1, h2, h3, h4, h5, h6⟩ := h
  exact ⟨⟨cs[j]'(by omega), by rw [h4.cell]; exact List.getElem?_eq_getElem _⟩, h4.frozen j⟩
theorem KeptV.store (h : KeptV w0 bb n f w bd s v xs) (hn : n < 4) (hx : xs = f n) : Kept w0 bb (n + 1) f (w.setCell ⟨bb, n, none⟩ v) bd s := by
  subst hx
  obtain ⟨Kp, cs, ⟨D, h1, h2, h2', h2''⟩, h3, h3', h4, h5, h6, h7⟩ := h
  have hf : Fr (fun k => k = bb) w (w.setCell ⟨bb, n, none⟩ v) := (Fr.refl _ _).setCell _ _ (.inl rfl)
  have hk : ∀ k, Kp k ∧ k ≠ bb → k < w.heap.size → ¬ k = bb := fun k hk _ => hk.2
  refine ⟨Kp, cs.set n v, ⟨D, h1.fr hf (fun k hk e => (h2 k hk).2 (e ▸ h3)), h2, fun k hk => Nat.lt_of_lt_of_le (h2' k hk) hf.size, h2''.trans hf (fun k e => .inr (by omega))⟩, h3, h3', h4.set n v, by simpa using h5, fun j hj => ?_⟩
  by_cases e : j = n
  · subst e
    exact ⟨v, by simp [h5, hn], h7.fr hf hk⟩
  · obtain ⟨u, r1, r2⟩ := h6 j (by omega)
    exact ⟨u, by rw [List.getElem?_set_ne (by omega)]; exact r1, r2.fr hf hk⟩
theorem kept_read (m : Int) (h : Kept w0 bb n f w bd s) : Calls Try.prog 15 #[.pointer (some ⟨bd, 0, none⟩), .int .i64 m] w fun e w' =>
    ∃ v, e = .returned (.tuple #[v, .int .i64 (s.read m).2]) ∧ KeptV w0 bb n f w' bd s v (s.read m).1 := by
  obtain ⟨Kp, cs, ⟨D, h1, h2, h2', h2''⟩, h3, h3', h4, h5, h6⟩ := h
  refine (read_any m h1).mono ?_
  rintro e w' ⟨v, rfl, hb, hf⟩
  have how : Ow w0 Kp w bd s := ⟨D, h1, h2, h2', h2''⟩
  refine ⟨v, rfl, Mo Kp w w', cs, how.more hf, .inl h3, h3', h4.fr hf id, h5, fun j hj => ?_, ?_⟩
  · obtain ⟨u, r1, r2⟩ := h6 j hj
    exact ⟨u, r1, (r2.fr hf fun _ _ _ e => e).mono fun k hk => ⟨.inl hk.1, hk.2⟩⟩
  · obtain ⟨a, len, cap, r1, r2, r3⟩ := hb
    exact ⟨a, len, cap, r1, r2, r3.imp id fun ⟨g, o, q1, q2, q3, q4⟩ => ⟨g, o, q1, ⟨.inr ⟨q2, q3⟩, by have := h4.lt; unfold New at q2; omega⟩, q3, q4⟩⟩
theorem kept_crash (cv : Value) (keep : List Bool) (h : Kept w0 bb n f w bd s) (hv : BoolsIn w0 (fun k => k < w0.heap.size) cv keep) (hl : keep.length ≤ 9223372036854775807) :
    Calls Try.prog 18 #[.pointer (some ⟨bd, 0, none⟩), cv] w fun e w' => e = .returned (.int .i64 (s.crash keep).1) ∧ Kept w0 bb n f w' bd (s.crash keep).2 := by
  obtain ⟨Kp, cs, h1, h3, h3', h4, h5, h6⟩ := h
  refine (ow_crash cv keep _ h1 (hv.fr h1.fr (fun _ _ _ e => e)) (fun k hk => .inl hk) hl).mono ?_
  rintro e w' ⟨rfl, ho, hf⟩
  refine ⟨rfl, Kp, cs, ho, h3, h3', h4.fr hf (fun e => e.2 h3), h5, fun j hj => ?_⟩
  obtain ⟨u, r1, r2⟩ := h6 j hj
  exact ⟨u, r1, r2.fr hf fun k hk _ e => e.2 hk.1⟩
theorem picked_nil (k : List Bool) : picked [] k = [] := by cases k <;> rfl
/-- Behind a crash a second one changes nothing. -/
theorem crash_again (s : St) (k1 k2 : List Bool) : (s.crash k1).2.crash k2 = (0, (s.crash k1).2) := by
  simp [St.crash, picked_nil, St.some, applied]
theorem crash_read (s : St) (k1 : List Bool) (h : s.L.length = 4) {j : Nat} (hj : j < 4) : ((s.crash k1).2.read j).2 = 0 := by
  simp [St.crash, St.read, St.some, applied_length, h, hj]
end
theorem zero50 (w : World) : (zeroValue 50).run Try.prog w = .ok (.agg #[.slice none 0 0, .slice none 0 0, .slice none 0 0, .slice none 0 0]) w := by kernel_rfl
end Go.Proofs.Ytjlellehlcidnaa.D
