/-
  The document's log: a sector is read from its disk.
-/
import Derived.Test.YtlnolnaapnijbaaLogH
namespace Go.Proofs.Ytlnolnaapnijbaa.L
set_option maxRecDepth 100000
open Go.RowKit K

theorem rsec64 {w : World} {bd : Nat} {Z : Nat → Prop} {u : U} (h : Rk w bd Z u) {n : Nat} (hn : n < u.L.length) : (u.sec n).length = 64 := by
  have e : (D.now (u.P.map both8) n (ints (u.L.getD n []))).length = 64 := D.now_64 _ _ _ (by
    have := h.ok.sec (ints (u.L.getD n [])) (by
      show _ ∈ u.L.map ints
      rw [List.getD_eq_getElem?_getD, List.getElem?_eq_getElem hn]
      exact List.mem_map.2 ⟨_, List.getElem_mem hn, rfl⟩)
    exact this) (fun p hp => (h.ok.pnd p hp).2)
  rw [now_ints] at e
  simpa [U.sec] using e
/-- Read, of a sector that is there. -/
theorem rread_up {w : World} {bd : Nat} {Z : Nat → Prop} {u : U} (n : Nat) (h : Rk w bd Z u) (hn : n < u.L.length) (hu : u.up = true) : Calls Try.prog 62 #[.pointer (some ⟨bd, 0, none⟩), .int .i64 (n : Int)] w fun e w' =>
    ∃ a cap, e = .returned (.tuple #[.slice a 64 cap, .int .i64 0]) ∧ 64 ≤ cap ∧ S.At w' a (u.sec n) ∧ (∃ k o, a = some ⟨k, o, none⟩ ∧ w.heap.size ≤ k ∧ k < w'.heap.size) ∧ Fr No w w' := by
  refine (D.rread_any (n : Int) h).mono ?_
  rintro e w' ⟨v, rfl, hb, hf⟩
  rw [st_read, read_in hn, if_neg (by simp [hu])] at hb
  rw [st_read, read_in hn, if_neg (by simp [hu])]
  have h64 : (u.sec n).length = 64 := rsec64 h hn
  have hb' := ints_bytes hb
  obtain ⟨a, cap, rfl, h1, h2⟩ := S.at_of hb'
  obtain ⟨a', len', cap', e1, e2, -, e3⟩ := hb'
  simp only [Value.slice.injEq] at e1
  obtain ⟨rfl, rfl, rfl⟩ := e1
  obtain ⟨k, o, r1, r2, r3, _⟩ := e3.resolve_left (by simp only [h64]; decide)
  exact ⟨a, cap, by simp [h64], by rw [← h64]; exact h1, h2, ⟨k, o, r1, r2, r3⟩, hf⟩
theorem rread_down {w : World} {bd : Nat} {Z : Nat → Prop} {u : U} (n : Nat) (h : Rk w bd Z u) (hn : n < u.L.length) (hu : u.up = false) : Calls Try.prog 62 #[.pointer (some ⟨bd, 0, none⟩), .int .i64 (n : Int)] w fun e w' =>
    ∃ a cap, e = .returned (.tuple #[.slice a 0 cap, .int .i64 10]) ∧ Fr No w w' := by
  refine (D.rread_any (n : Int) h).mono ?_
  rintro e w' ⟨v, rfl, hb, hf⟩
  rw [st_read, read_in hn, if_pos hu] at hb
  rw [st_read, read_in hn, if_pos hu]
  obtain ⟨a, cap, rfl, h1, h2⟩ := S.at_of (ints_bytes hb)
  exact ⟨a, cap, rfl, hf⟩
/-- The document's log and its disk in memory. -/
def AtR (w : World) (bg bd : Nat) (Z : Nat → Prop) (g : Lg) (u : U) : Prop :=
  Rk w bd Z u ∧ Blk w bg 93 (lgCells bd g) ∧ ¬ Z bg ∧ g.Ok u.L.length
theorem AtR.fr {w w' : World} {bg bd : Nat} {Z E : Nat → Prop} {g : Lg} {u : U} (h : AtR w bg bd Z g u) (hf : Fr E w w') (hd : ∀ k, Z k → ¬ E k) (hg : ¬ E bg) : AtR w' bg bd Z g u :=
  ⟨D.Rep.fr h.1 hf hd, h.2.1.fr hf hg, h.2.2⟩
theorem AtR.no {w w' : World} {bg bd : Nat} {Z : Nat → Prop} {g : Lg} {u : U} (h : AtR w bg bd Z g u) (hf : Fr No w w') : AtR w' bg bd Z g u := h.fr hf (fun _ _ e => e) (fun e => e)
theorem AtR.lens {w : World} {bg bd : Nat} {Z : Nat → Prop} {g : Lg} {u : U} (h : AtR w bg bd Z g u) : u.L.length ≤ 4096 := by
  have := h.1.ok.n1
  simpa [U.st] using this
theorem AtR.setNext {w : World} {bg bd : Nat} {Z : Nat → Prop} {g : Lg} {u : U} (h : AtR w bg bd Z g u) (n : Nat) (h1 : 1 ≤ n) (h2 : n ≤ g.count) : AtR (w.setCell ⟨bg, 5, none⟩ (.int .i64 n)) bg bd Z { g with next := n } u :=
  ⟨D.Rep.fr h.1 ((Fr.refl (fun k => k = bg) w).setCell _ _ (.inl rfl)) (fun k hk e => h.2.2.1 (by rw [← e]; exact hk)), h.2.1.set 5 _, h.2.2.1, ⟨h.2.2.2.c2, h.2.2.2.fit, h1, h2, h.2.2.2.ep, h.2.2.2.li⟩⟩
end Go.Proofs.Ytlnolnaapnijbaa.L
