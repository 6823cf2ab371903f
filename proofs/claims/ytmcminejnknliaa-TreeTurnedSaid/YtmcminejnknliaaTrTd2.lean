/-
  Lists of unlike keys: the order in which they are put is not seen.
-/
import Derived.Test.YtmcminejnknliaaTreeCuts
namespace Go.Proofs.Ytmcminejnknliaa.TR
set_option maxRecDepth 100000
open Go.RowKit K

def Unlike (l : L) : Prop := l.Pairwise fun x y => x.1 ≠ y.1
def knows (k : S) (l : L) : Bool := l.any fun y => decide (y.1 = k)
def ded (l : L) : L := l.foldl (fun a x => if knows x.1 a then a else a ++ [x]) []
theorem ded_snoc (l : L) (x : S × S) : ded (l ++ [x]) = if knows x.1 (ded l) then ded l else ded l ++ [x] := by unfold ded; rw [List.foldl_append]; rfl
theorem ded_unlike (l : L) : Unlike (ded l) := by
  have : ∀ (l a : L), Unlike a → Unlike (l.foldl (fun a x => if knows x.1 a then a else a ++ [x]) a) := by
    intro l
    induction l with
    | nil => exact fun a h => h
    | cons x r ih =>
      intro a h
      refine ih _ ?_
      show Unlike (if knows x.1 a = true then a else a ++ [x])
      cases hk : knows x.1 a with
      | true => rw [if_pos rfl]; exact h
      | false =>
        rw [if_neg (by simp)]
        refine List.pairwise_append.2 ⟨h, List.pairwise_singleton _ _, fun y hy z hz => ?_⟩
        have e : z = x := by simpa using hz
        rw [e]
        intro he
        have : knows x.1 a = true := List.any_eq_true.2 ⟨y, hy, by simpa using he⟩
        rw [this] at hk; cases hk
  exact this l [] List.Pairwise.nil
theorem ded_length (l : L) : (ded l).length ≤ l.length := by
  have : ∀ (l a : L), (l.foldl (fun a x => if knows x.1 a then a else a ++ [x]) a).length ≤ a.length + l.length := by
    intro l
    induction l with
    | nil => intro a; simp
    | cons x r ih =>
      intro a
      have h1 := ih (if knows x.1 a then a else a ++ [x])
      simp only [List.foldl_cons, List.length_cons]
      have h2 : (if knows x.1 a then a else a ++ [x]).length ≤ a.length + 1 := by split <;> simp
      omega
  have := this l []
  simpa [ded] using this
theorem last_mem (k v : S) : ∀ (l : L) (a : Option S), Unlike l → (l.foldl (fun a x => if x.1 = k then some x.2 else a) a = some v ↔ (k, v) ∈ l ∨ (a = some v ∧ ∀ y ∈ l, y.1 ≠ k))
  | [], a, _ => by simp
  | x :: r, a, h => by
    have h1 : ∀ y ∈ r, x.1 ≠ y.1 := (List.pairwise_cons.1 h).1
    have ih := last_mem k v r (if x.1 = k then some x.2 else a) (List.pairwise_cons.1 h).2
    simp only [List.foldl_cons]
    rw [ih]
    by_cases e : x.1 = k
    · rw [if_pos e]
      constructor
      · rintro (h2 | ⟨h2, -⟩)
        · exact .inl (List.mem_cons_of_mem _ h2)
        · have : x.2 = v := by simpa using h2
          exact .inl (by rw [← e, ← this]; exact List.mem_cons_self)
      · rintro (h2 | ⟨-, h2⟩)
        · rcases List.mem_cons.1 h2 with h3 | h3
          · have e2 : x.2 = v := by rw [← h3]
            exact .inr ⟨by rw [e2], fun y hy he => h1 y hy (e.trans he.symm)⟩
          · exact absurd e (h1 _ h3)
        · exact absurd e (h2 x List.mem_cons_self)
    · rw [if_neg e]
      constructor
      · rintro (h2 | ⟨h2, h3⟩)
        · exact .inl (List.mem_cons_of_mem _ h2)
        · refine .inr ⟨h2, fun y hy => ?_⟩
          rcases List.mem_cons.1 hy with rfl | hy
          · exact e
          · exact h3 y hy
      · rintro (h2 | ⟨h2, h3⟩)
        · rcases List.mem_cons.1 h2 with h4 | h4
          · exact absurd (by rw [← h4]) e
          · exact .inl h4
        · exact .inr ⟨h2, fun y hy => h3 y (List.mem_cons_of_mem _ hy)⟩
theorem last_iff {l : L} (h : Unlike l) (k v : S) : lastO k l = some v ↔ (k, v) ∈ l := by
  have := last_mem k v l none h
  simpa [lastO] using this
theorem unlike_rev {l : L} (h : Unlike l) : Unlike l.reverse := List.pairwise_reverse.2 (h.imp fun e => Ne.symm e)
theorem last_rev {l : L} (h : Unlike l) (k : S) : lastO k l.reverse = lastO k l := by
  cases h1 : lastO k l with
  | some v => exact (last_iff (unlike_rev h) k v).2 (List.mem_reverse.2 ((last_iff h k v).1 h1))
  | none =>
    cases h2 : lastO k l.reverse with
    | none => rfl
    | some v =>
      have := (last_iff h k v).2 (List.mem_reverse.1 ((last_iff (unlike_rev h) k v).1 h2))
      rw [h1] at this; cases this
theorem sorted_ext : ∀ {l1 l2 : L}, Sorted l1 → Sorted l2 → (∀ k, get k l1 = get k l2) → l1 = l2
  | [], [], _, _, _ => rfl
  | [], y :: s, _, _, h => by
    have := h y.1
    simp [get, lt_irr] at this
  | x :: r, [], _, _, h => by
    have := h x.1
    simp [get, lt_irr] at this
  | x :: r, y :: s, h1, h2, h => by
    have a1 : ∀ z ∈ r, lt x.1 z.1 = true := (List.pairwise_cons.1 h1).1
    have a2 : ∀ z ∈ s, lt y.1 z.1 = true := (List.pairwise_cons.1 h2).1
    have hx : get x.1 (x :: r) = some x.2 := by simp [get, lt_irr]
    have hy : get y.1 (y :: s) = some y.2 := by simp [get, lt_irr]
    have n1 : ¬ lt x.1 y.1 = true := fun e => by
      have := get_gt (B := y :: s) (k := x.1) (fun z hz => by
        rcases List.mem_cons.1 hz with rfl | hz
        · exact e
        · exact lt_trans e (a2 z hz))
      rw [← h, hx] at this; cases this
    have n2 : ¬ lt y.1 x.1 = true := fun e => by
      have := get_gt (B := x :: r) (k := y.1) (fun z hz => by
        rcases List.mem_cons.1 hz with rfl | hz
        · exact e
        · exact lt_trans e (a1 z hz))
      rw [h, hy] at this; cases this
    have e1 : x.1 = y.1 := lt_tot (by simpa using n1) (by simpa using n2)
    have e2 : x.2 = y.2 := by
      have := h x.1
      rw [hx, e1, hy] at this
      simpa using this
    have e : x = y := Prod.ext e1 e2
    subst e
    have : r = s := sorted_ext (List.pairwise_cons.1 h1).2 (List.pairwise_cons.1 h2).2 (fun k => by
      by_cases hk : lt x.1 k = true
      · have := h k
        simpa [get, hk] using this
      · have hk' : lt x.1 k = false := by simpa using hk
        rw [get_gt (fun z hz => lt_of_le_of_lt hk' (a1 z hz)), get_gt (fun z hz => lt_of_le_of_lt hk' (a2 z hz))])
    rw [this]
theorem turned_eq {l : L} (h : Unlike l) : ofL l.reverse = ofL l :=
  sorted_ext (ofL_sorted _) (ofL_sorted _) (fun k => by rw [get_of, get_of, last_rev h])
end Go.Proofs.Ytmcminejnknliaa.TR
