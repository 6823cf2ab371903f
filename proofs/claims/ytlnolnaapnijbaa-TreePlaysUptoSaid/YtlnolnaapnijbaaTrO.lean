/-
  Keys in order, and lists of pairs: put, del, get, scans. No program.
-/
import Derived.Test.YtlnolnaapnijbaaCall
namespace Go.Proofs.Ytlnolnaapnijbaa.TR
set_option maxRecDepth 100000
open Go.RowKit K

abbrev S := ByteArray
abbrev L := List (S × S)

theorem bl_irr : ∀ a, Go.Op.bytesLess a a = false
  | [] => rfl
  | x :: r => by simp [Go.Op.bytesLess, bl_irr r]
theorem bl_trans : ∀ a b c, Go.Op.bytesLess a b = true → Go.Op.bytesLess b c = true → Go.Op.bytesLess a c = true
  | [], _, [], h1, h2 => by cases ‹List UInt8› <;> simp_all [Go.Op.bytesLess]
  | [], _, _ :: _, _, _ => rfl
  | _ :: _, [], _, h, _ => by simp [Go.Op.bytesLess] at h
  | _ :: _, _ :: _, [], _, h => by simp [Go.Op.bytesLess] at h
  | a :: x, b :: y, c :: z, h1, h2 => by
    simp only [Go.Op.bytesLess, Bool.or_eq_true, Bool.and_eq_true, decide_eq_true_eq, beq_iff_eq] at h1 h2 ⊢
    rcases h1 with h1 | ⟨rfl, h1⟩
    · rcases h2 with h2 | ⟨rfl, h2⟩
      · exact .inl (UInt8.lt_trans h1 h2)
      · exact .inl h1
    · rcases h2 with h2 | ⟨rfl, h2⟩
      · exact .inl h2
      · exact .inr ⟨rfl, bl_trans x y z h1 h2⟩
theorem bl_tot : ∀ a b, Go.Op.bytesLess a b = false → Go.Op.bytesLess b a = false → a = b
  | [], [], _, _ => rfl
  | [], _ :: _, h, _ => by simp [Go.Op.bytesLess] at h
  | _ :: _, [], _, h => by simp [Go.Op.bytesLess] at h
  | a :: x, b :: y, h1, h2 => by
    simp only [Go.Op.bytesLess, Bool.or_eq_false_iff, Bool.and_eq_false_iff, decide_eq_false_iff_not, beq_eq_false_iff_ne] at h1 h2
    have e : a = b := by
      have h3 := h1.1; have h4 := h2.1
      simp only [UInt8.lt_iff_toNat_lt] at h3 h4
      exact UInt8.toNat_inj.1 (by omega)
    subst e
    rw [bl_tot x y (by simpa using h1.2) (by simpa using h2.2)]

/-- Less. -/
def lt (a b : S) : Bool := Go.Op.bytesLess a.toList b.toList
theorem toList_inj {a b : S} (h : a.toList = b.toList) : a = b := by
  rw [ByteArray.toList_eq, ByteArray.toList_eq] at h
  cases a; cases b
  simp only at h
  rw [Array.toList_inj.1 h]
theorem lt_irr (a : S) : lt a a = false := bl_irr _
theorem lt_trans {a b c : S} (h : lt a b = true) (k : lt b c = true) : lt a c = true := bl_trans _ _ _ h k
theorem lt_tot {a b : S} (h : lt a b = false) (k : lt b a = false) : a = b := toList_inj (bl_tot _ _ h k)
theorem lt_asymm {a b : S} (h : lt a b = true) : lt b a = false := by
  cases e : lt b a
  · rfl
  · have := lt_trans h e; rw [lt_irr] at this; cases this
theorem lt_of_le_of_lt {a b c : S} (h : lt b a = false) (k : lt b c = true) : lt a c = true := by
  cases e : lt a b
  · rw [lt_tot e h]; exact k
  · exact lt_trans e k
theorem lt_of_lt_of_le {a b c : S} (h : lt a b = true) (k : lt c b = false) : lt a c = true := by
  cases e : lt b c
  · rw [← lt_tot e k]; exact h
  · exact lt_trans h e
theorem le_trans {a b c : S} (h : lt b a = false) (k : lt c b = false) : lt c a = false := by
  cases e : lt c a
  · rfl
  · have := lt_of_lt_of_le e h; rw [k] at this; cases this
theorem lt_ne {a b : S} (h : lt a b = true) : a ≠ b := fun e => by subst e; rw [lt_irr] at h; cases h
theorem lt_empty (a : S) : lt a ⟨#[]⟩ = false := by
  unfold lt
  have : (⟨#[]⟩ : ByteArray).toList = [] := by rw [ByteArray.toList_eq]
  rw [this]
  cases a.toList <;> rfl
theorem eq_beq (a b : S) : (a.toList == b.toList) = decide (a = b) := by
  by_cases h : a = b
  · subst h; simp
  · simp [h]; exact fun e => h (toList_inj e)

/-! ### Lists of pairs -/
def Sorted (l : L) : Prop := l.Pairwise fun x y => lt x.1 y.1 = true
def put (k v : S) : L → L
  | [] => [(k, v)]
  | x :: r => if lt x.1 k then x :: put k v r else if x.1 = k then (x.1, v) :: r else (k, v) :: x :: r
def del (k : S) : L → L
  | [] => []
  | x :: r => if lt x.1 k then x :: del k r else if x.1 = k then r else x :: r
def get (k : S) : L → Option S
  | [] => none
  | x :: r => if lt x.1 k then get k r else if x.1 = k then some x.2 else none
def has (k : S) (l : L) : Bool := (get k l).isSome
/-- The place. -/
def plc (k : S) : L → Nat
  | [] => 0
  | x :: r => if lt x.1 k then plc k r + 1 else 0

/-- All keys of A are less than k. -/
def AllLt (A : L) (k : S) : Prop := ∀ x ∈ A, lt x.1 k = true
/-- No key of B is less than k or is k. -/
def AllGt (B : L) (k : S) : Prop := ∀ x ∈ B, lt k x.1 = true

theorem put_left {A : L} {k : S} (h : AllLt A k) (v : S) (B : L) : put k v (A ++ B) = A ++ put k v B := by
  induction A with
  | nil => rfl
  | cons x r ih => simp [put, h x (by simp), ih (fun y hy => h y (by simp [hy]))]
theorem del_left {A : L} {k : S} (h : AllLt A k) (B : L) : del k (A ++ B) = A ++ del k B := by
  induction A with
  | nil => rfl
  | cons x r ih => simp [del, h x (by simp), ih (fun y hy => h y (by simp [hy]))]
theorem get_left {A : L} {k : S} (h : AllLt A k) (B : L) : get k (A ++ B) = get k B := by
  induction A with
  | nil => rfl
  | cons x r ih => simp [get, h x (by simp), ih (fun y hy => h y (by simp [hy]))]
theorem put_gt {B : L} {k : S} (h : AllGt B k) (v : S) : put k v B = (k, v) :: B := by
  cases B with
  | nil => rfl
  | cons x r =>
    have := h x (by simp)
    simp [put, lt_asymm this, Ne.symm (lt_ne this)]
theorem del_gt {B : L} {k : S} (h : AllGt B k) : del k B = B := by
  cases B with
  | nil => rfl
  | cons x r =>
    have := h x (by simp)
    simp [del, lt_asymm this, Ne.symm (lt_ne this)]
theorem get_gt {B : L} {k : S} (h : AllGt B k) : get k B = none := by
  cases B with
  | nil => rfl
  | cons x r =>
    have := h x (by simp)
    simp [get, lt_asymm this, Ne.symm (lt_ne this)]
theorem put_right {B : L} {k : S} (h : AllGt B k) (v : S) (M : L) : put k v (M ++ B) = put k v M ++ B := by
  induction M with
  | nil => exact put_gt h v
  | cons x r ih =>
    simp only [List.cons_append, put]
    split
    · rw [ih]; rfl
    · split <;> rfl
theorem del_right {B : L} {k : S} (h : AllGt B k) (M : L) : del k (M ++ B) = del k M ++ B := by
  induction M with
  | nil => exact del_gt h
  | cons x r ih =>
    simp only [List.cons_append, del]
    split
    · rw [ih]; rfl
    · split <;> rfl
theorem get_right {B : L} {k : S} (h : AllGt B k) (M : L) : get k (M ++ B) = get k M := by
  induction M with
  | nil => exact get_gt h
  | cons x r ih =>
    simp only [List.cons_append, get]
    split
    · rw [ih]
    · split <;> rfl
theorem has_mid {A M B : L} {k : S} (ha : AllLt A k) (hb : AllGt B k) : has k (A ++ M ++ B) = has k M := by
  unfold has; rw [get_right hb, get_left ha]
theorem put_mid {A M B : L} {k : S} (ha : AllLt A k) (hb : AllGt B k) (v : S) : put k v (A ++ M ++ B) = A ++ put k v M ++ B := by
  rw [put_right hb, put_left ha]
theorem del_mid {A M B : L} {k : S} (ha : AllLt A k) (hb : AllGt B k) : del k (A ++ M ++ B) = A ++ del k M ++ B := by
  rw [del_right hb, del_left ha]
theorem get_mid {A M B : L} {k : S} (ha : AllLt A k) (hb : AllGt B k) : get k (A ++ M ++ B) = get k M := by
  rw [get_right hb, get_left ha]
theorem put_keys (k v : S) (l : L) : ∀ x ∈ put k v l, x.1 = k ∨ ∃ y ∈ l, y.1 = x.1 := by
  induction l with
  | nil => intro x hx; simp [put] at hx; exact .inl (by rw [hx])
  | cons a r ih =>
    intro x hx
    unfold put at hx
    split at hx
    · rcases List.mem_cons.1 hx with rfl | hx
      · exact .inr ⟨x, by simp, rfl⟩
      · exact (ih x hx).imp id fun ⟨y, h1, h2⟩ => ⟨y, by simp [h1], h2⟩
    · split at hx
      · rcases List.mem_cons.1 hx with rfl | hx
        · exact .inr ⟨a, by simp, rfl⟩
        · exact .inr ⟨x, by simp [hx], rfl⟩
      · rcases List.mem_cons.1 hx with rfl | hx
        · exact .inl rfl
        · exact .inr ⟨x, hx, rfl⟩
theorem del_sub (k : S) (l : L) : ∀ x ∈ del k l, x ∈ l := by
  induction l with
  | nil => intro x hx; exact hx
  | cons a r ih =>
    intro x hx
    unfold del at hx
    split at hx
    · rcases List.mem_cons.1 hx with rfl | hx
      · simp
      · simp [ih x hx]
    · split at hx
      · simp [hx]
      · exact hx
theorem put_sorted {l : L} (k v : S) (h : Sorted l) : Sorted (put k v l) := by
  induction l with
  | nil => simp [put, Sorted]
  | cons a r ih =>
    have h' := List.pairwise_cons.1 h
    unfold put
    split
    · rename_i hlt
      refine List.pairwise_cons.2 ⟨fun x hx => ?_, ih h'.2⟩
      rcases put_keys k v r x hx with e | ⟨y, hy, e⟩
      · rw [e]; exact hlt
      · rw [← e]; exact h'.1 y hy
    · rename_i hnl
      split
      · exact List.pairwise_cons.2 ⟨fun x hx => h'.1 x hx, h'.2⟩
      · rename_i hne
        have hka : lt k a.1 = true := by
          cases e : lt k a.1
          · exact absurd (lt_tot (by simpa using hnl) e) hne
          · rfl
        refine List.pairwise_cons.2 ⟨fun x hx => ?_, h⟩
        rcases List.mem_cons.1 hx with rfl | hx
        · exact hka
        · exact lt_trans hka (h'.1 x hx)
theorem del_sublist (k : S) (l : L) : (del k l).Sublist l := by
  induction l with
  | nil => exact List.Sublist.refl _
  | cons a r ih =>
    unfold del
    split
    · exact ih.cons_cons a
    · split
      · exact List.sublist_cons_self a r
      · exact List.Sublist.refl _
theorem del_sorted {l : L} (k : S) (h : Sorted l) : Sorted (del k l) := List.Pairwise.sublist (del_sublist k l) h
theorem put_length (k v : S) (l : L) : (put k v l).length = l.length + if has k l then 0 else 1 := by
  induction l with
  | nil => simp [put, has, get]
  | cons a r ih =>
    unfold has at ih ⊢
    unfold put get
    split
    · simp [ih]; omega
    · split <;> simp
theorem del_length (k : S) (l : L) : (del k l).length + (if has k l then 1 else 0) = l.length := by
  induction l with
  | nil => simp [del, has, get]
  | cons a r ih =>
    unfold has at ih ⊢
    unfold del get
    split
    · simp; omega
    · split <;> simp
/-- A list parted at a key: what is less ahead, no less behind. -/
structure Part (l : L) (k : S) (i : Nat) : Prop where
  le : i ≤ l.length
  lo : ∀ j x, j < i → l[j]? = some x → lt x.1 k = true
  hi : ∀ j x, i ≤ j → l[j]? = some x → lt x.1 k = false
theorem Part.take {l : L} {k : S} {i : Nat} (h : Part l k i) : AllLt (l.take i) k := fun x hx => by
  obtain ⟨j, hj, e⟩ := List.mem_iff_getElem.1 hx
  rw [List.length_take] at hj
  rw [List.getElem_take] at e
  exact h.lo j x (by omega) (by rw [List.getElem?_eq_getElem (by omega), e])
theorem Part.plc {l : L} {k : S} {i : Nat} (h : Part l k i) : plc k l = i := by
  induction l generalizing i with
  | nil => have := h.le; simp at this; simp [TR.plc, this]
  | cons a r ih =>
    unfold TR.plc
    cases i with
    | zero => simp [h.hi 0 a (Nat.le_refl _) rfl]
    | succ i =>
      rw [if_pos (h.lo 0 a (by omega) rfl)]
      rw [ih ⟨by have := h.le; simp at this; omega, fun j x hj e => h.lo (j + 1) x (by omega) (by simpa using e), fun j x hj e => h.hi (j + 1) x (by omega) (by simpa using e)⟩]
/-- What the place's element says. -/
theorem Part.miss {l : L} {k : S} {i : Nat} (hs : Sorted l) (h : Part l k i) (hm : ∀ x, l[i]? = some x → x.1 ≠ k) : AllGt (l.drop i) k := fun x hx => by
  have hlt : i < l.length := by
    rcases Nat.lt_or_ge i l.length with g | g
    · exact g
    · rw [List.drop_eq_nil_of_le g] at hx; cases hx
  have e0 : l[i]? = some l[i] := List.getElem?_eq_getElem hlt
  have h0 : lt k l[i].1 = true := by
    cases e : lt k l[i].1
    · exact absurd (lt_tot (h.hi i _ (Nat.le_refl _) e0) e) (hm _ e0)
    · rfl
  rw [List.drop_eq_getElem_cons hlt] at hx
  rcases List.mem_cons.1 hx with rfl | hx
  · exact h0
  · obtain ⟨j, hj, e⟩ := List.mem_iff_getElem.1 hx
    rw [List.getElem_drop] at e
    simp only [List.length_drop] at hj
    rw [← e]
    exact lt_trans h0 (List.pairwise_iff_getElem.1 hs i (i + 1 + j) hlt (by omega) (by omega))
theorem Part.put_miss {l : L} {k : S} {i : Nat} (hs : Sorted l) (h : Part l k i) (hm : ∀ x, l[i]? = some x → x.1 ≠ k) (v : S) : put k v l = l.take i ++ (k, v) :: l.drop i ∧ has k l = false := by
  have h1 := h.miss hs hm
  have e := List.take_append_drop i l
  constructor
  · conv => lhs; rw [← e]
    rw [put_left h.take, put_gt h1]
  · unfold has
    conv => lhs; rw [← e]
    rw [get_left h.take, get_gt h1]; rfl
theorem Part.hit {l : L} {k : S} {i : Nat} (h : Part l k i) {x : S × S} (hx : l[i]? = some x) (hk : x.1 = k) (v : S) :
    put k v l = l.set i (x.1, v) ∧ del k l = l.take i ++ l.drop (i + 1) ∧ get k l = some x.2 := by
  obtain ⟨hlt, e0⟩ := List.getElem?_eq_some_iff.1 hx
  have e := List.take_append_drop i l
  have ed : l.drop i = x :: l.drop (i + 1) := by rw [List.drop_eq_getElem_cons hlt, e0]
  subst hk
  refine ⟨?_, ?_, ?_⟩
  · conv => lhs; rw [← e]
    rw [put_left h.take, ed, List.set_eq_take_append_cons_drop, if_pos hlt]
    simp [TR.put, lt_irr]
  · conv => lhs; rw [← e]
    rw [del_left h.take, ed]
    simp [del, lt_irr]
  · conv => lhs; rw [← e]
    rw [get_left h.take, ed]
    simp [TR.get, lt_irr]
theorem Part.miss_del {l : L} {k : S} {i : Nat} (hs : Sorted l) (h : Part l k i) (hm : ∀ x, l[i]? = some x → x.1 ≠ k) : del k l = l ∧ get k l = none := by
  have h1 := h.miss hs hm
  have e := List.take_append_drop i l
  constructor
  · conv => lhs; rw [← e]
    rw [del_left h.take, del_gt h1, e]
  · conv => lhs; rw [← e]
    rw [get_left h.take, get_gt h1]
end Go.Proofs.Ytlnolnaapnijbaa.TR
