/-
  The tree as data: nodes with their blocks; what they hold; how they lie in memory.
-/
import Derived.Test.YtlnolnaapnijbaaTrP
namespace Go.Proofs.Ytlnolnaapnijbaa.TR
set_option maxRecDepth 100000
open Go.RowKit K

structure Nd (α : Type) where
  b : Nat
  k : Value
  c : Value
  l : List (S × α)
def Kid : Nat → Type
  | 0 => S
  | d + 1 => Nd (Kid d)
abbrev PT (d : Nat) : Type := Nd (Kid d)

/-! ### What it holds -/
def flatK : (d : Nat) → S → Kid d → L
  | 0, k, v => [(k, v)]
  | d + 1, _, t => (Nd.l (α := Kid d) t).flatMap fun x => flatK d x.1 x.2
def flats (d : Nat) (l : List (S × Kid d)) : L := l.flatMap fun x => flatK d x.1 x.2
def flat (d : Nat) (t : PT d) : L := flats d t.l
theorem flats_nil (d : Nat) : flats d [] = [] := rfl
theorem flats_cons (d : Nat) (x : S × Kid d) (r : List (S × Kid d)) : flats d (x :: r) = flatK d x.1 x.2 ++ flats d r := by simp [flats]
theorem flats_append (d : Nat) (A B : List (S × Kid d)) : flats d (A ++ B) = flats d A ++ flats d B := by simp [flats]
theorem flatK_succ (d : Nat) (k : S) (t : PT d) : flatK (d + 1) k t = flat d t := rfl
theorem flats_zero (l : List (S × Kid 0)) : flats 0 l = l := by
  induction l with
  | nil => rfl
  | cons x r ih => rw [flats_cons, ih]; rfl
theorem flat_zero (t : PT 0) : flat 0 t = t.l := flats_zero t.l

/-! ### Its order -/
def Below (hi : Option S) (k : S) : Prop := match hi with | none => True | some h => lt k h = true
/-- The next key. -/
def nx {α : Type} (hi : Option S) : List (S × α) → Option S
  | [] => hi
  | x :: _ => some x.1
def Chain {α : Type} (R : S → Option S → α → Prop) (hi : Option S) : List (S × α) → Prop
  | [] => True
  | x :: r => R x.1 (nx hi r) x.2 ∧ Below (nx hi r) x.1 ∧ Chain R hi r
def First : (d : Nat) → S → List (S × Kid d) → Prop
  | 0, lo, l => ∀ x ∈ l, lt x.1 lo = false
  | d + 1, lo, l => ∃ (c : Kid (d + 1)) (r : List (S × Kid (d + 1))), l = (lo, c) :: r
def okK : (d : Nat) → S → Option S → Kid d → Prop
  | 0, _, _, _ => True
  | d + 1, lo, hi, t => Chain (okK d) hi (Nd.l (α := Kid d) t) ∧ First d lo (Nd.l (α := Kid d) t)
def Ok (d : Nat) (lo : S) (hi : Option S) (t : PT d) : Prop := Chain (okK d) hi t.l ∧ First d lo t.l

theorem Below.lt {hi : Option S} {a b : S} (h : Below hi b) (k : lt a b = true) : Below hi a := by
  cases hi with
  | none => trivial
  | some x => exact lt_trans k h
theorem Below.le {hi : Option S} {a b : S} (h : Below hi b) (k : TR.lt b a = false) : Below hi a := by
  cases hi with
  | none => trivial
  | some x => exact lt_of_le_of_lt k h
theorem nx_append {α : Type} (hi : Option S) (A B : List (S × α)) : nx hi (A ++ B) = nx (nx hi B) A := by cases A <;> rfl
theorem chain_append {α : Type} {R : S → Option S → α → Prop} {hi : Option S} (A B : List (S × α)) : Chain R hi (A ++ B) ↔ Chain R (nx hi B) A ∧ Chain R hi B := by
  induction A with
  | nil => simp [Chain]
  | cons x r ih => simp only [List.cons_append, Chain, ih, nx_append]; constructor <;> (intro h; simp_all)
/-- Where the chain goes on. -/
theorem chain_next {α : Type} {R : S → Option S → α → Prop} {hi : Option S} {x : S × α} {r : List (S × α)} (h : Chain R hi (x :: r)) : ∀ y ∈ r, lt x.1 y.1 = true := by
  induction r generalizing x with
  | nil => intro y hy; cases hy
  | cons z s ih =>
    intro y hy
    have h1 : lt x.1 z.1 = true := h.2.1
    rcases List.mem_cons.1 hy with rfl | hy
    · exact h1
    · exact lt_trans h1 (ih h.2.2 y hy)
theorem chain_below {α : Type} {R : S → Option S → α → Prop} {hi : Option S} {l : List (S × α)} (h : Chain R hi l) : ∀ x ∈ l, Below hi x.1 := by
  induction l with
  | nil => intro x hx; cases hx
  | cons z s ih =>
    intro x hx
    rcases List.mem_cons.1 hx with rfl | hx
    · cases s with
      | nil => exact h.2.1
      | cons y r => exact (ih h.2.2 y (by simp)).lt h.2.1
    · exact ih h.2.2 x hx
theorem chain_rises {α : Type} {R : S → Option S → α → Prop} {hi : Option S} {l : List (S × α)} (h : Chain R hi l) : Rises (l.map (·.1)) := by
  induction l with
  | nil => exact List.Pairwise.nil
  | cons z s ih =>
    refine List.pairwise_cons.2 ⟨fun y hy => ?_, ih h.2.2⟩
    obtain ⟨x, hx, rfl⟩ := List.mem_map.1 hy
    exact chain_next h x hx
theorem chain_bound {α : Type} {R : S → Option S → α → Prop} {hi hi' : Option S} {l : List (S × α)} (hR : ∀ k c, R k hi c → Below hi k → R k hi' c ∧ Below hi' k) (h : Chain R hi l) : Chain R hi' l := by
  induction l with
  | nil => trivial
  | cons x r ih =>
    cases r with
    | nil => exact ⟨(hR _ _ h.1 h.2.1).1, (hR _ _ h.1 h.2.1).2, trivial⟩
    | cons y s => exact ⟨h.1, h.2.1, ih h.2.2⟩

theorem ok_first {d : Nat} {lo : S} {l : List (S × Kid d)} {hi : Option S} (h : Chain (okK d) hi l) (hf : First d lo l) : ∀ x ∈ l, lt x.1 lo = false := by
  cases d with
  | zero => exact hf
  | succ d =>
    obtain ⟨c, r, rfl⟩ := hf
    intro x hx
    rcases List.mem_cons.1 hx with rfl | hx
    · exact lt_irr _
    · exact lt_asymm (chain_next h x hx)
theorem okK_range : ∀ (d : Nat) (lo : S) (hi : Option S) (c : Kid d), okK d lo hi c → Below hi lo → ∀ x ∈ flatK d lo c, lt x.1 lo = false ∧ Below hi x.1
  | 0, lo, hi, c, _, hb, x, hx => by
    obtain rfl : x = (lo, c) := List.mem_singleton.1 hx
    exact ⟨lt_irr _, hb⟩
  | d + 1, lo, hi, t, h, hb, x, hx => by
    obtain ⟨y, hy, hxy⟩ := List.mem_flatMap.1 hx
    obtain ⟨A, B, e⟩ := List.append_of_mem hy
    have hc : Chain (okK d) hi (Nd.l (α := Kid d) t) := h.1
    have hy0 := ok_first hc h.2 y hy
    have hyb := chain_below hc
    rw [e, chain_append] at hc
    have h1 := okK_range d y.1 (nx hi B) y.2 hc.2.1 hc.2.2.1 x hxy
    refine ⟨le_trans hy0 h1.1, ?_⟩
    cases B with
    | nil => exact h1.2
    | cons z r => exact (hyb z (by rw [e]; simp)).lt h1.2
theorem flats_range {d : Nat} {hi : Option S} {l : List (S × Kid d)} (h : Chain (okK d) hi l) : ∀ x ∈ flats d l, Below hi x.1 := by
  induction l with
  | nil => intro x hx; cases hx
  | cons y r ih =>
    intro x hx
    rw [flats_cons] at hx
    rcases List.mem_append.1 hx with hx | hx
    · have h1 := (okK_range d y.1 (nx hi r) y.2 h.1 h.2.1 x hx).2
      cases r with
      | nil => exact h1
      | cons z s => exact (chain_below h z (by simp)).lt h1
    · exact ih h.2.2 x hx
theorem flats_low {d : Nat} {hi : Option S} {l : List (S × Kid d)} {lo : S} (h : Chain (okK d) hi l) (hl : ∀ x ∈ l, lt x.1 lo = false) : ∀ x ∈ flats d l, lt x.1 lo = false := by
  induction l with
  | nil => intro x hx; cases hx
  | cons y r ih =>
    intro x hx
    rw [flats_cons] at hx
    rcases List.mem_append.1 hx with hx | hx
    · exact le_trans (hl y (by simp)) (okK_range d y.1 (nx hi r) y.2 h.1 h.2.1 x hx).1
    · exact ih h.2.2 (fun z hz => hl z (by simp [hz])) x hx
theorem okK_sorted : ∀ (d : Nat) (lo : S) (hi : Option S) (c : Kid d), okK d lo hi c → Sorted (flatK d lo c)
  | 0, lo, hi, c, _ => List.pairwise_singleton _ _
  | d + 1, lo, hi, t, h => by
    have hc : Chain (okK d) hi (Nd.l (α := Kid d) t) := h.1
    show Sorted (flats d (Nd.l (α := Kid d) t))
    clear h
    generalize Nd.l (α := Kid d) t = l at hc
    induction l with
    | nil => exact List.Pairwise.nil
    | cons y r ih =>
      rw [flats_cons]
      refine List.pairwise_append.2 ⟨okK_sorted d y.1 (nx hi r) y.2 hc.1, ih hc.2.2, fun a ha b hb => ?_⟩
      have h1 := (okK_range d y.1 (nx hi r) y.2 hc.1 hc.2.1 a ha).2
      cases r with
      | nil => cases hb
      | cons z s =>
        have h2 : lt b.1 z.1 = false := flats_low hc.2.2 (fun x hx => by
          rcases List.mem_cons.1 hx with rfl | hx
          · exact lt_irr _
          · exact lt_asymm (chain_next hc.2.2 x hx)) b hb
        exact lt_of_lt_of_le h1 h2
theorem ok_sorted {d : Nat} {lo : S} {hi : Option S} {t : PT d} (h : Ok d lo hi t) : Sorted (flat d t) := okK_sorted (d + 1) lo hi t h
theorem Ok.rises {d : Nat} {lo : S} {hi : Option S} {t : PT d} (h : Ok d lo hi t) : Rises (t.l.map (·.1)) := chain_rises h.1

/-- The kid that a key belongs to. -/
theorem hold_split {d : Nat} {lo : S} {hi : Option S} {t : PT (d + 1)} {key : S} {j : Nat} (h : Ok (d + 1) lo hi t) (hj : HoldK (t.l.map (·.1)) key j) :
    ∃ (A : List (S × Kid (d + 1))) (k : S) (x : Kid (d + 1)) (B : List (S × Kid (d + 1))), t.l = A ++ (k, x) :: B ∧ A.length = j ∧ AllLt (flats (d + 1) A) key ∧ AllGt (flats (d + 1) B) key ∧
      Chain (okK (d + 1)) (some k) A ∧ Ok d k (nx hi B) x ∧ Below (nx hi B) k ∧ Chain (okK (d + 1)) hi B ∧ (lt key lo = false → lt key k = false) ∧ (Below hi key → Below (nx hi B) key) := by
  have hlt : j < t.l.length := by simpa using hj.lt
  obtain ⟨y, hy⟩ : ∃ y, y = t.l[j] := ⟨_, rfl⟩
  have e : t.l = t.l.take j ++ y :: t.l.drop (j + 1) := by
    rw [hy, ← List.drop_eq_getElem_cons hlt, List.take_append_drop]
  have hc := h.1
  rw [e, chain_append] at hc
  have hyk : nx hi (y :: t.l.drop (j + 1)) = some y.1 := rfl
  rw [hyk] at hc
  refine ⟨t.l.take j, y.1, y.2, t.l.drop (j + 1), e, by simp; omega, ?_, ?_, hc.1, hc.2.1, hc.2.2.1, hc.2.2.2, ?_, ?_⟩
  · intro x hx
    have h1 : TR.lt x.1 y.1 = true := flats_range hc.1 x hx
    rcases Nat.eq_zero_or_pos j with h0 | h0
    · subst h0; cases hx
    · have h2 := hj.lo j y.1 (Nat.le_refl _) h0 (by rw [List.getElem?_map, List.getElem?_eq_getElem hlt, hy]; rfl)
      exact lt_of_lt_of_le h1 h2
  · intro x hx
    have h1 := flats_low (lo := key) hc.2.2.2 (fun z hz => by
      obtain ⟨m, hm, hz'⟩ := List.mem_iff_getElem.1 hz
      rw [List.getElem_drop] at hz'
      simp only [List.length_drop] at hm
      have := hj.hi (j + 1 + m) z.1 (by omega) (by rw [List.getElem?_map, List.getElem?_eq_getElem (by omega), hz']; rfl)
      exact lt_asymm this) x hx
    cases h2 : TR.lt key x.1
    · exfalso
      have heq := lt_tot h2 h1
      obtain ⟨z, hz, hxz⟩ := List.mem_flatMap.1 hx
      obtain ⟨m, hm, hz'⟩ := List.mem_iff_getElem.1 hz
      rw [List.getElem_drop] at hz'
      simp only [List.length_drop] at hm
      have h3 := hj.hi (j + 1 + m) z.1 (by omega) (by rw [List.getElem?_map, List.getElem?_eq_getElem (by omega), hz']; rfl)
      obtain ⟨A, B, e2⟩ := List.append_of_mem hz
      have h4 := hc.2.2.2
      rw [e2, chain_append] at h4
      have h5 := (okK_range _ _ _ _ h4.2.1 h4.2.2.1 x hxz).1
      rw [← heq, h3] at h5
      cases h5
    · rfl
  · intro hk
    rcases Nat.eq_zero_or_pos j with h0 | h0
    · subst h0
      obtain ⟨c, r, hl⟩ := h.2
      have : y.1 = lo := by rw [hy]; simp [hl]
      rw [this]; exact hk
    · exact hj.lo j y.1 (Nat.le_refl _) h0 (by rw [List.getElem?_map, List.getElem?_eq_getElem hlt, hy]; rfl)
  · intro hb
    cases hB : t.l.drop (j + 1) with
    | nil => exact hb
    | cons z r =>
      have hl : j + 1 < t.l.length := by
        rcases Nat.lt_or_ge (j + 1) t.l.length with g | g
        · exact g
        · rw [List.drop_eq_nil_of_le g] at hB; cases hB
      rw [List.drop_eq_getElem_cons hl] at hB
      have hz : t.l[j + 1] = z := by injection hB
      exact hj.hi (j + 1) z.1 (by omega) (by rw [List.getElem?_map, List.getElem?_eq_getElem hl, hz]; rfl)

/-! ### Its sizes -/
def szK : (d : Nat) → Kid d → Prop
  | 0, _ => True
  | d + 1, t => 4 ≤ (Nd.l (α := Kid d) t).length ∧ (Nd.l (α := Kid d) t).length ≤ 8
def goodK : (d : Nat) → Kid d → Prop
  | 0, _ => True
  | d + 1, t => ∀ x ∈ Nd.l (α := Kid d) t, szK d x.2 ∧ goodK d x.2
def Good (d : Nat) (t : PT d) : Prop := ∀ x ∈ t.l, szK d x.2 ∧ goodK d x.2

theorem flatK_count : ∀ (d : Nat) (k : S) (c : Kid d), szK d c → goodK d c → 4 ^ d ≤ (flatK d k c).length ∧ (flatK d k c).length ≤ 8 ^ d
  | 0, _, _, _, _ => by simp [flatK]
  | d + 1, k, t, hs, hg => by
    have key : ∀ l : List (S × Kid d), (∀ x ∈ l, szK d x.2 ∧ goodK d x.2) → l.length * 4 ^ d ≤ (flats d l).length ∧ (flats d l).length ≤ l.length * 8 ^ d := by
      intro l
      induction l with
      | nil => intro _; simp [flats]
      | cons x r ih =>
        intro h
        have h1 := flatK_count d x.1 x.2 (h x (by simp)).1 (h x (by simp)).2
        have h2 := ih (fun y hy => h y (by simp [hy]))
        rw [flats_cons, List.length_append, List.length_cons, Nat.succ_mul, Nat.succ_mul]
        omega
    have h1 := key (Nd.l (α := Kid d) t) hg
    have h2 : (flatK (d + 1) k t).length = (flats d (Nd.l (α := Kid d) t)).length := rfl
    rw [h2, Nat.pow_succ, Nat.pow_succ]
    have h3 : 4 * 4 ^ d ≤ (Nd.l (α := Kid d) t).length * 4 ^ d := Nat.mul_le_mul_right _ hs.1
    have h4 : (Nd.l (α := Kid d) t).length * 8 ^ d ≤ 8 * 8 ^ d := Nat.mul_le_mul_right _ hs.2
    omega
theorem flat_count {d : Nat} {t : PT d} (h : Good d t) : t.l.length * 4 ^ d ≤ (flat d t).length ∧ (flat d t).length ≤ t.l.length * 8 ^ d := by
  have key : ∀ l : List (S × Kid d), (∀ x ∈ l, szK d x.2 ∧ goodK d x.2) → l.length * 4 ^ d ≤ (flats d l).length ∧ (flats d l).length ≤ l.length * 8 ^ d := by
    intro l
    induction l with
    | nil => intro _; simp [flats]
    | cons x r ih =>
      intro h
      have h1 := flatK_count d x.1 x.2 (h x (by simp)).1 (h x (by simp)).2
      have h2 := ih (fun y hy => h y (by simp [hy]))
      rw [flats_cons, List.length_append, List.length_cons, Nat.succ_mul, Nat.succ_mul]
      omega
  exact key t.l h
end Go.Proofs.Ytlnolnaapnijbaa.TR
