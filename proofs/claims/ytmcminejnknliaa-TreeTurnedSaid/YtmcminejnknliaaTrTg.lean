/-
  The tree's calls, for the laws: where the tree lies is told by its block.
-/
import Derived.Test.YtmcminejnknliaaTrTf
namespace Go.Proofs.Ytmcminejnknliaa.TR
set_option maxRecDepth 100000
open Go.RowKit K

/-- Pairs in memory, at base or behind. -/
def PrNew (w : World) (base : Nat) (pv : Value) (l : L) : Prop := ∃ a c, pv = .slice a l.length c ∧ (l = [] ∨ ∃ g, a = some ⟨g, 0, none⟩ ∧ w.rangeAt g 0 (pcs l) ∧ base ≤ g ∧ g < w.heap.size)
theorem pr_new {w : World} {base : Nat} {pv : Value} {l : L} (h : w.ownsRow base 32 2 pv l.length (pcs l)) : PrNew w base pv l := by
  rcases h.2 with ⟨rfl, h0⟩ | ⟨g, cap, cur, rfl, hb, h1, h2, h3, h4, h5⟩
  · have : l = [] := List.eq_nil_of_length_eq_zero h0
    subst this
    exact ⟨none, 0, rfl, .inl rfl⟩
  · refine ⟨_, cap, rfl, .inr ⟨g, rfl, ?_, hb, (Array.getElem?_eq_some_iff.1 h1).1⟩⟩
    have hB : Blk w g 32 cur.toList := by simpa [Blk] using h1
    refine hB.range 0 _ ?_
    rw [List.drop_zero, pcs_length]
    exact h5
theorem PrNew.fr {w w' : World} {base : Nat} {pv : Value} {l : L} {D : Nat → Prop} (h : PrNew w base pv l) (hf : Fr D w w') (hd : ∀ g, base ≤ g → g < w.heap.size → ¬ D g) : PrNew w' base pv l := by
  obtain ⟨a, c, e, h⟩ := h
  refine ⟨a, c, e, h.imp id ?_⟩
  rintro ⟨g, e, hr, hb, hg⟩
  exact ⟨g, e, hf.range hr (hd g hb hg), hb, Nat.lt_of_lt_of_le hg hf.size⟩
/-- A tree made since w0, as it stands. -/
structure Lv (w0 w : World) (b : Nat) (T : TD) (l : L) : Prop where
  b : T.b = b
  at_ : TrAt w T l
  fr : Fr No w0 w
  ge : ∀ g, T.fp g → w0.heap.size ≤ g
abbrev pt (b : Nat) : Value := .pointer (some ⟨b, 0, none⟩)
theorem Lv.no {w0 w w' : World} {b : Nat} {T : TD} {l : L} (h : Lv w0 w b T l) (hf : Fr No w w') : Lv w0 w' b T l := ⟨h.b, h.at_.no hf, h.fr.trans' hf, h.ge⟩
theorem Lv.pre {w0 w w' : World} {b : Nat} {T : TD} {l : L} (hf : Fr No w0 w) (h : Lv w w' b T l) : Lv w0 w' b T l := ⟨h.b, h.at_, hf.trans' h.fr, fun g hg => Nat.le_trans hf.size (h.ge g hg)⟩
theorem Lv.v {w0 w : World} {b : Nat} {T : TD} {l : L} (h : Lv w0 w b T l) : T.v = pt b := by unfold TD.v; rw [h.b]
def Turns (w0 w : World) (b : Nat) (T : TD) (r : Bool) (l' : L) (e : Ending) (w' : World) : Prop :=
  e = .returned (.bool r) ∧ ∃ T', Lv w0 w' b T' l' ∧ Fr T.fp w w' ∧ ∀ g, T'.fp g → T.fp g ∨ w.heap.size ≤ g
theorem turns_of {w0 w : World} {b : Nat} {T : TD} {l l' : L} {r : Bool} (h : Lv w0 w b T l) {e : Ending} {w' : World} (hp : TPost w T r l' e w') : Turns w0 w b T r l' e w' := by
  obtain ⟨rfl, T', hb, ht, hf, hg⟩ := hp
  exact ⟨rfl, T', ⟨hb.trans h.b, ht, h.fr.trans hf (fun g hg => .inr (h.ge g hg)), fun g hg' => (hg g hg').elim (h.ge g) (fun e => Nat.le_trans h.fr.size e)⟩, hf, hg⟩
theorem Lv.put {w0 w : World} {b : Nat} {T : TD} {l : L} (h : Lv w0 w b T l) (hn : l.length ≤ 4398046511000) (key v : S) : Calls Try.prog 14 #[pt b, .string key, .string v] w (Turns w0 w b T (has key l) (put key v l)) := by
  have := tput_any w T l key v h.at_ hn
  rw [h.v] at this
  exact this.mono fun e w' hp => turns_of h hp
theorem Lv.del {w0 w : World} {b : Nat} {T : TD} {l : L} (h : Lv w0 w b T l) (hn : l.length ≤ 4398046511104) (key : S) : Calls Try.prog 21 #[pt b, .string key] w (Turns w0 w b T (has key l) (del key l)) := by
  have := tdel_any w T l key h.at_ hn
  rw [h.v] at this
  exact this.mono fun e w' hp => turns_of h hp
theorem Lv.get {w0 w : World} {b : Nat} {T : TD} {l : L} (h : Lv w0 w b T l) (hn : l.length ≤ 4398046511104) (key : S) : Calls Try.prog 20 #[pt b, .string key] w fun e w' => e = .returned (getV (get key l)) ∧ Lv w0 w' b T l ∧ Fr No w w' := by
  have := tget_any w T l key h.at_ hn
  rw [h.v] at this
  exact this.mono fun e w' ⟨he, hf⟩ => ⟨he, h.no hf, hf⟩
theorem Lv.len {w0 w : World} {b : Nat} {T : TD} {l : L} (h : Lv w0 w b T l) : Calls Try.prog 16 #[pt b] w fun e w' => e = .returned (.int .i64 (l.length : Int)) ∧ w' = w := by
  have := tlen_any w T l h.at_
  rwa [h.v] at this
theorem Lv.depth {w0 w : World} {b : Nat} {T : TD} {l : L} (h : Lv w0 w b T l) (hn : l.length ≤ 4398046511104) : Calls Try.prog 28 #[pt b] w fun e w' => e = .returned (.int .i64 ((T.d + 1 : Nat) : Int)) ∧ Lv w0 w' b T l ∧ Fr No w w' := by
  have := tdepth_any w T l h.at_ hn
  rw [h.v] at this
  exact this.mono fun e w' ⟨he, hf⟩ => ⟨he, h.no hf, hf⟩
def Tells (w0 w : World) (b : Nat) (T : TD) (l l' : L) (e : Ending) (w' : World) : Prop := ∃ pv, e = .returned pv ∧ PrNew w' w.heap.size pv l' ∧ Lv w0 w' b T l ∧ Fr No w w'
theorem Lv.scan {w0 w : World} {b : Nat} {T : TD} {l : L} (h : Lv w0 w b T l) (hn : l.length ≤ 4398046511104) (fr to : S) (most : Int) : Calls Try.prog 22 #[pt b, .string fr, .string to, .int .i64 most] w (Tells w0 w b T l (scanS fr to most l)) := by
  have := tscan_any w T l fr to most h.at_ hn
  rw [h.v] at this
  exact this.mono fun e w' ⟨pv, he, hr, hf⟩ => ⟨pv, he, pr_new hr, h.no hf, hf⟩
theorem Lv.all {w0 w : World} {b : Nat} {T : TD} {l : L} (h : Lv w0 w b T l) (hn : l.length ≤ 4398046511104) : Calls Try.prog 18 #[pt b] w (Tells w0 w b T l l) := by
  have := tall_l w T l h.at_ hn
  rw [h.v] at this
  exact this.mono fun e w' ⟨pv, he, hr, hf⟩ => ⟨pv, he, pr_new hr, h.no hf, hf⟩
/-- A new tree, by its block. -/
def Makes (w : World) (l : L) (e : Ending) (w' : World) : Prop := ∃ b T, e = .returned (pt b) ∧ Lv w w' b T l
theorem makes_of {w : World} {l : L} {e : Ending} {w' : World} (h : NewT w l e w') : Makes w l e w' := by
  obtain ⟨T, rfl, ht, hf, hg⟩ := h
  exact ⟨T.b, T, rfl, rfl, ht, hf, hg⟩
theorem of_any (w : World) (pv : Value) (l : L) (h : PrAt w pv l) : Calls Try.prog 11 #[pv] w (Makes w (ofL l)) := (tof_any w pv l h).mono fun _ _ h => makes_of h
theorem new_any (w : World) : Calls Try.prog 23 #[] w (Makes w []) := (tnew_any w).mono fun _ _ h => makes_of h
theorem Lv.clone {w0 w : World} {b : Nat} {T : TD} {l : L} (h : Lv w0 w b T l) (hn : l.length ≤ 4398046511104) : Calls Try.prog 13 #[pt b] w (Makes w l) := by
  have := tclone_any w T l h.at_ hn
  rw [h.v] at this
  exact this.mono fun _ _ h => makes_of h
end Go.Proofs.Ytmcminejnknliaa.TR
