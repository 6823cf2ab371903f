/-
  Part 2 of the proof: TrO, TrA, TrS, TrB.
-/
import Derived.Test.YtflfmkokfbgclaaGreatRc01
import Derived.Lib.AppendZerosOnto
import Derived.Lib.SliceRun
import Derived.ArgAppend
import Derived.Lib.Overlaps
import Derived.Laws.Externs
import Derived.Test.YtflfmkokfbgclaaGreatChecked
set_option linter.unusedSimpArgs false
set_option linter.unusedVariables false
namespace Go.Proofs.YtflfmkokfbgclaaGreat.TR
set_option maxRecDepth 100000
open Go.RowKit K

abbrev S := ByteArray
abbrev L := List (S × S)

theorem bl_irr : ∀ a, Go.Op.bytesLess a a = false
  | [] => rfl
  | x :: r => by simp [Go.Op.bytesLess, bl_irr r]
theorem bl_trans : ∀ a b c, Go.Op.bytesLess a b = true → Go.Op.bytesLess b c = true → Go.Op.bytesLess a c = true
  | [], _, [], h1, h2 => by cases ‹List UInt8› <;> simp_all [Go.Op.bytesLess]
  | [], _, _ :: _, _, _ => rfl
  | _ :: _, [], _, h, _ => by simp [Go.Op.bytesLess] at h
  | _ :: _, _ :: _, [], _, h => by simp [Go.Op.bytesLess] at h
  | a :: x, b :: y, c :: z, h1, h2 => by
    simp only [Go.Op.bytesLess, Bool.or_eq_true, Bool.and_eq_true, decide_eq_true_eq, beq_iff_eq] at h1 h2 ⊢
    rcases h1 with h1 | ⟨rfl, h1⟩
    · rcases h2 with h2 | ⟨rfl, h2⟩
      · exact .inl (UInt8.lt_trans h1 h2)
      · exact .inl h1
    · rcases h2 with h2 | ⟨rfl, h2⟩
      · exact .inl h2
      · exact .inr ⟨rfl, bl_trans x y z h1 h2⟩
theorem bl_tot : ∀ a b, Go.Op.bytesLess a b = false → Go.Op.bytesLess b a = false → a = b
  | [], [], _, _ => rfl
  | [], _ :: _, h, _ => by simp [Go.Op.bytesLess] at h
  | _ :: _, [], _, h => by simp [Go.Op.bytesLess] at h
  | a :: x, b :: y, h1, h2 => by
    simp only [Go.Op.bytesLess, Bool.or_eq_false_iff, Bool.and_eq_false_iff, decide_eq_false_iff_not, beq_eq_false_iff_ne] at h1 h2
    have e : a = b := by
      have h3 := h1.1; have h4 := h2.1
      simp only [UInt8.lt_iff_toNat_lt] at h3 h4
      exact UInt8.toNat_inj.1 (by omega)
    subst e
    rw [bl_tot x y (by simpa using h1.2) (by simpa using h2.2)]

/-- Less. -/
def lt (a b : S) : Bool := Go.Op.bytesLess a.toList b.toList
theorem toList_inj {a b : S} (h : a.toList = b.toList) : a = b := by
  rw [ByteArray.toList_eq, ByteArray.toList_eq] at h
  cases a; cases b
  simp only at h
  rw [Array.toList_inj.1 h]
theorem lt_irr (a : S) : lt a a = false := bl_irr _
theorem lt_trans {a b c : S} (h : lt a b = true) (k : lt b c = true) : lt a c = true := bl_trans _ _ _ h k
theorem lt_tot {a b : S} (h : lt a b = false) (k : lt b a = false) : a = b := toList_inj (bl_tot _ _ h k)
theorem lt_asymm {a b : S} (h : lt a b = true) : lt b a = false := by
  cases e : lt b a
  · rfl
  · have := lt_trans h e; rw [lt_irr] at this; cases this
theorem lt_of_le_of_lt {a b c : S} (h : lt b a = false) (k : lt b c = true) : lt a c = true := by
  cases e : lt a b
  · rw [lt_tot e h]; exact k
  · exact lt_trans e k
theorem lt_of_lt_of_le {a b c : S} (h : lt a b = true) (k : lt c b = false) : lt a c = true := by
  cases e : lt b c
  · rw [← lt_tot e k]; exact h
  · exact lt_trans h e
theorem le_trans {a b c : S} (h : lt b a = false) (k : lt c b = false) : lt c a = false := by
  cases e : lt c a
  · rfl
  · have := lt_of_lt_of_le e h; rw [k] at this; cases this
theorem lt_ne {a b : S} (h : lt a b = true) : a ≠ b := fun e => by subst e; rw [lt_irr] at h; cases h
theorem lt_empty (a : S) : lt a ⟨#[]⟩ = false := by
  unfold lt
  have : (⟨#[]⟩ : ByteArray).toList = [] := by rw [ByteArray.toList_eq]
  rw [this]
  cases a.toList <;> rfl
theorem eq_beq (a b : S) : (a.toList == b.toList) = decide (a = b) := by
  by_cases h : a = b
  · subst h; simp
  · simp [h]; exact fun e => h (toList_inj e)

/-! ### Lists of pairs -/
def Sorted (l : L) : Prop := l.Pairwise fun x y => lt x.1 y.1 = true
def put (k v : S) : L → L
  | [] => [(k, v)]
  | x :: r => if lt x.1 k then x :: put k v r else if x.1 = k then (x.1, v) :: r else (k, v) :: x :: r
def del (k : S) : L → L
  | [] => []
  | x :: r => if lt x.1 k then x :: del k r else if x.1 = k then r else x :: r
def get (k : S) : L → Option S
  | [] => none
  | x :: r => if lt x.1 k then get k r else if x.1 = k then some x.2 else none
def has (k : S) (l : L) : Bool := (get k l).isSome
/-- All keys of A are less than k. -/
def AllLt (A : L) (k : S) : Prop := ∀ x ∈ A, lt x.1 k = true
/-- No key of B is less than k or is k. -/
def AllGt (B : L) (k : S) : Prop := ∀ x ∈ B, lt k x.1 = true

theorem put_left {A : L} {k : S} (h : AllLt A k) (v : S) (B : L) : put k v (A ++ B) = A ++ put k v B := by
  induction A with
  | nil => rfl
  | cons x r ih => simp [put, h x (by simp), ih (fun y hy => h y (by simp [hy]))]
theorem del_left {A : L} {k : S} (h : AllLt A k) (B : L) : del k (A ++ B) = A ++ del k B := by
  induction A with
  | nil => rfl
  | cons x r ih => simp [del, h x (by simp), ih (fun y hy => h y (by simp [hy]))]
theorem get_left {A : L} {k : S} (h : AllLt A k) (B : L) : get k (A ++ B) = get k B := by
  induction A with
  | nil => rfl
  | cons x r ih => simp [get, h x (by simp), ih (fun y hy => h y (by simp [hy]))]
theorem put_gt {B : L} {k : S} (h : AllGt B k) (v : S) : put k v B = (k, v) :: B := by
  cases B with
  | nil => rfl
  | cons x r =>
    have := h x (by simp)
    simp [put, lt_asymm this, Ne.symm (lt_ne this)]
theorem del_gt {B : L} {k : S} (h : AllGt B k) : del k B = B := by
  cases B with
  | nil => rfl
  | cons x r =>
    have := h x (by simp)
    simp [del, lt_asymm this, Ne.symm (lt_ne this)]
theorem get_gt {B : L} {k : S} (h : AllGt B k) : get k B = none := by
  cases B with
  | nil => rfl
  | cons x r =>
    have := h x (by simp)
    simp [get, lt_asymm this, Ne.symm (lt_ne this)]
theorem put_right {B : L} {k : S} (h : AllGt B k) (v : S) (M : L) : put k v (M ++ B) = put k v M ++ B := by
  induction M with
  | nil => exact put_gt h v
  | cons x r ih =>
    simp only [List.cons_append, put]
    split
    · rw [ih]; rfl
    · split <;> rfl
theorem del_right {B : L} {k : S} (h : AllGt B k) (M : L) : del k (M ++ B) = del k M ++ B := by
  induction M with
  | nil => exact del_gt h
  | cons x r ih =>
    simp only [List.cons_append, del]
    split
    · rw [ih]; rfl
    · split <;> rfl
theorem get_right {B : L} {k : S} (h : AllGt B k) (M : L) : get k (M ++ B) = get k M := by
  induction M with
  | nil => exact get_gt h
  | cons x r ih =>
    simp only [List.cons_append, get]
    split
    · rw [ih]
    · split <;> rfl
theorem has_mid {A M B : L} {k : S} (ha : AllLt A k) (hb : AllGt B k) : has k (A ++ M ++ B) = has k M := by
  unfold has; rw [get_right hb, get_left ha]
theorem put_mid {A M B : L} {k : S} (ha : AllLt A k) (hb : AllGt B k) (v : S) : put k v (A ++ M ++ B) = A ++ put k v M ++ B := by
  rw [put_right hb, put_left ha]
theorem del_mid {A M B : L} {k : S} (ha : AllLt A k) (hb : AllGt B k) : del k (A ++ M ++ B) = A ++ del k M ++ B := by
  rw [del_right hb, del_left ha]
theorem get_mid {A M B : L} {k : S} (ha : AllLt A k) (hb : AllGt B k) : get k (A ++ M ++ B) = get k M := by
  rw [get_right hb, get_left ha]
theorem put_keys (k v : S) (l : L) : ∀ x ∈ put k v l, x.1 = k ∨ ∃ y ∈ l, y.1 = x.1 := by
  induction l with
  | nil => intro x hx; simp [put] at hx; exact .inl (by rw [hx])
  | cons a r ih =>
    intro x hx
    unfold put at hx
    split at hx
    · rcases List.mem_cons.1 hx with rfl | hx
      · exact .inr ⟨x, by simp, rfl⟩
      · exact (ih x hx).imp id fun ⟨y, h1, h2⟩ => ⟨y, by simp [h1], h2⟩
    · split at hx
      · rcases List.mem_cons.1 hx with rfl | hx
        · exact .inr ⟨a, by simp, rfl⟩
        · exact .inr ⟨x, by simp [hx], rfl⟩
      · rcases List.mem_cons.1 hx with rfl | hx
        · exact .inl rfl
        · exact .inr ⟨x, hx, rfl⟩
theorem del_sub (k : S) (l : L) : ∀ x ∈ del k l, x ∈ l := by
  induction l with
  | nil => intro x hx; exact hx
  | cons a r ih =>
    intro x hx
    unfold del at hx
    split at hx
    · rcases List.mem_cons.1 hx with rfl | hx
      · simp
      · simp [ih x hx]
    · split at hx
      · simp [hx]
      · exact hx
theorem put_sorted {l : L} (k v : S) (h : Sorted l) : Sorted (put k v l) := by
  induction l with
  | nil => simp [put, Sorted]
  | cons a r ih =>
    have h' := List.pairwise_cons.1 h
    unfold put
    split
    · rename_i hlt
      refine List.pairwise_cons.2 ⟨fun x hx => ?_, ih h'.2⟩
      rcases put_keys k v r x hx with e | ⟨y, hy, e⟩
      · rw [e]; exact hlt
      · rw [← e]; exact h'.1 y hy
    · rename_i hnl
      split
      · exact List.pairwise_cons.2 ⟨fun x hx => h'.1 x hx, h'.2⟩
      · rename_i hne
        have hka : lt k a.1 = true := by
          cases e : lt k a.1
          · exact absurd (lt_tot (by simpa using hnl) e) hne
          · rfl
        refine List.pairwise_cons.2 ⟨fun x hx => ?_, h⟩
        rcases List.mem_cons.1 hx with rfl | hx
        · exact hka
        · exact lt_trans hka (h'.1 x hx)
theorem del_sublist (k : S) (l : L) : (del k l).Sublist l := by
  induction l with
  | nil => exact List.Sublist.refl _
  | cons a r ih =>
    unfold del
    split
    · exact ih.cons_cons a
    · split
      · exact List.sublist_cons_self a r
      · exact List.Sublist.refl _
theorem del_sorted {l : L} (k : S) (h : Sorted l) : Sorted (del k l) := List.Pairwise.sublist (del_sublist k l) h
theorem put_length (k v : S) (l : L) : (put k v l).length = l.length + if has k l then 0 else 1 := by
  induction l with
  | nil => simp [put, has, get]
  | cons a r ih =>
    unfold has at ih ⊢
    unfold put get
    split
    · simp [ih]; omega
    · split <;> simp
theorem del_length (k : S) (l : L) : (del k l).length + (if has k l then 1 else 0) = l.length := by
  induction l with
  | nil => simp [del, has, get]
  | cons a r ih =>
    unfold has at ih ⊢
    unfold del get
    split
    · simp; omega
    · split <;> simp
/-- A list parted at a key: what is less ahead, no less behind. -/
structure Part (l : L) (k : S) (i : Nat) : Prop where
  le : i ≤ l.length
  lo : ∀ j x, j < i → l[j]? = some x → lt x.1 k = true
  hi : ∀ j x, i ≤ j → l[j]? = some x → lt x.1 k = false
theorem Part.take {l : L} {k : S} {i : Nat} (h : Part l k i) : AllLt (l.take i) k := fun x hx => by
  obtain ⟨j, hj, e⟩ := List.mem_iff_getElem.1 hx
  rw [List.length_take] at hj
  rw [List.getElem_take] at e
  exact h.lo j x (by omega) (by rw [List.getElem?_eq_getElem (by omega), e])
/-- What the place's element says. -/
theorem Part.miss {l : L} {k : S} {i : Nat} (hs : Sorted l) (h : Part l k i) (hm : ∀ x, l[i]? = some x → x.1 ≠ k) : AllGt (l.drop i) k := fun x hx => by
  have hlt : i < l.length := by
    rcases Nat.lt_or_ge i l.length with g | g
    · exact g
    · rw [List.drop_eq_nil_of_le g] at hx; cases hx
  have e0 : l[i]? = some l[i] := List.getElem?_eq_getElem hlt
  have h0 : lt k l[i].1 = true := by
    cases e : lt k l[i].1
    · exact absurd (lt_tot (h.hi i _ (Nat.le_refl _) e0) e) (hm _ e0)
    · rfl
  rw [List.drop_eq_getElem_cons hlt] at hx
  rcases List.mem_cons.1 hx with rfl | hx
  · exact h0
  · obtain ⟨j, hj, e⟩ := List.mem_iff_getElem.1 hx
    rw [List.getElem_drop] at e
    simp only [List.length_drop] at hj
    rw [← e]
    exact lt_trans h0 (List.pairwise_iff_getElem.1 hs i (i + 1 + j) hlt (by omega) (by omega))
theorem Part.put_miss {l : L} {k : S} {i : Nat} (hs : Sorted l) (h : Part l k i) (hm : ∀ x, l[i]? = some x → x.1 ≠ k) (v : S) : put k v l = l.take i ++ (k, v) :: l.drop i ∧ has k l = false := by
  have h1 := h.miss hs hm
  have e := List.take_append_drop i l
  constructor
  · conv => lhs; rw [← e]
    rw [put_left h.take, put_gt h1]
  · unfold has
    conv => lhs; rw [← e]
    rw [get_left h.take, get_gt h1]; rfl
theorem Part.hit {l : L} {k : S} {i : Nat} (h : Part l k i) {x : S × S} (hx : l[i]? = some x) (hk : x.1 = k) (v : S) :
    put k v l = l.set i (x.1, v) ∧ del k l = l.take i ++ l.drop (i + 1) ∧ get k l = some x.2 := by
  obtain ⟨hlt, e0⟩ := List.getElem?_eq_some_iff.1 hx
  have e := List.take_append_drop i l
  have ed : l.drop i = x :: l.drop (i + 1) := by rw [List.drop_eq_getElem_cons hlt, e0]
  subst hk
  refine ⟨?_, ?_, ?_⟩
  · conv => lhs; rw [← e]
    rw [put_left h.take, ed, List.set_eq_take_append_cons_drop, if_pos hlt]
    simp [TR.put, lt_irr]
  · conv => lhs; rw [← e]
    rw [del_left h.take, ed]
    simp [del, lt_irr]
  · conv => lhs; rw [← e]
    rw [get_left h.take, ed]
    simp [TR.get, lt_irr]
theorem Part.miss_del {l : L} {k : S} {i : Nat} (hs : Sorted l) (h : Part l k i) (hm : ∀ x, l[i]? = some x → x.1 ≠ k) : del k l = l ∧ get k l = none := by
  have h1 := h.miss hs hm
  have e := List.take_append_drop i l
  constructor
  · conv => lhs; rw [← e]
    rw [del_left h.take, del_gt h1, e]
  · conv => lhs; rw [← e]
    rw [get_left h.take, get_gt h1]
end Go.Proofs.YtflfmkokfbgclaaGreat.TR

namespace Go.Proofs.YtflfmkokfbgclaaGreat.TR
set_option maxRecDepth 100000
open Go.RowKit K
section
variable {P : Program} {ops : Array Oper} {rest : List Oper} {op : Oper} {a : Act} {w : World} {Q : Exit → Act → World → Prop}

theorem run_copy_k (w : World) (dT sT ty elem : TypeId) (b o dLen dCap : Nat) (ad : Addr) (sLen sCap k : Nat) (cs : List Value)
    (hu : P.underlying dT = some (.slice elem)) (hs : (P.info? elem).map (·.size) = some k) (hn : cs.length = Nat.min sLen dLen * k)
    (hsrc : ∀ j v, cs[j]? = some v → w.cell? (ad.add j) = some v) (hc : ∀ j, j < cs.length → (w.cell? ⟨b, o + j, none⟩).isSome = true) (hf : ∀ j, j < cs.length → w.frozen? ⟨b, o + j, none⟩ = false) (h1 : ∀ v ∈ cs, v.oneCell' = true) :
    (Builtin.copy_ #[dT, sT] ty #[.slice (some ⟨b, o, none⟩) dLen dCap, .slice (some ad) sLen sCap]).run P w = .ok (goInt (Nat.min sLen dLen)) (w.setCells b o cs) := by
  have hl := run_loadCells_list (P := P) w ad cs hsrc
  have hst := run_storeCells_cells (P := P) b o cs 0 w (by simpa using hc) (by simpa using hf) h1
  cases hq : P.info? elem with
  | none => simp [hq] at hs
  | some i =>
    have hi : i.size = k := by simpa [hq] using hs
    simp [Builtin.copy_, run_underlying hu, Builtin.lenOf, Builtin.firstCells, sizeOf, typeInfo, hq, hi, ← hn, hl, hst]
/-- 'copy' into a block that is known, elements of k cells: at 'Oper.wp'. -/
theorem wp_copyK {K : Act → World → Prop} (d s : Operand) (dT sT : TypeId) (ho : op.op = .call { callee := .builtin .copy, args := #[d, s], argTypes := #[dT, sT] })
    (elem : TypeId) (k : Nat) (hu : P.underlying dT = some (.slice elem)) (hsz : (P.info? elem).map (·.size) = some k)
    (g off dLen dCap : Nat) (ad : Addr) (sLen sCap : Nat) (hd : a.eval d = .slice (some ⟨g, off, none⟩) dLen dCap) (hs : a.eval s = .slice (some ad) sLen sCap)
    (t : TypeId) (cur : List Value) (hB : Blk w g t cur) (cs : List Value) (hn : cs.length = Nat.min sLen dLen * k) (hsrc : ∀ j v, cs[j]? = some v → w.cell? (ad.add j) = some v)
    (hle : off + cs.length ≤ cur.length) (h1 : ∀ v ∈ cs, v.oneCell' = true)
    (h : ∀ w', Hid (Blk w' g t (spl cur off cs)) → Hid (Fr (fun k => k = g) w w') → Hid (w'.heap.size = w.heap.size) → K (a.put op.dst (goInt (Nat.min sLen dLen))) w') : op.wp P a w K Q := by
  have hth := hB.there off cs.length hle
  have hrun := run_copy_k (P := P) w dT sT op.type elem g off dLen dCap ad sLen sCap k cs hu hsz hn hsrc (fun j hj => (hth j hj).1) (fun j hj => (hth j hj).2) h1
  unfold Oper.wp
  simp [execOp, ho, resolve, invoke, builtin, hd, hs, hrun, Result.andThen]
  exact h _ (hid (hB.sets cs off hle)) (hid ((Fr.refl (fun k => k = g) w).setCells g off _ (.inl rfl))) (hid (by simp))
theorem wpL_copyK (hgd : op.guard = none) (d s : Operand) (dT sT : TypeId) (ho : op.op = .call { callee := .builtin .copy, args := #[d, s], argTypes := #[dT, sT] })
    (elem : TypeId) (k : Nat) (hu : P.underlying dT = some (.slice elem)) (hsz : (P.info? elem).map (·.size) = some k)
    (g off dLen dCap : Nat) (ad : Addr) (sLen sCap : Nat) (hd : a.eval d = .slice (some ⟨g, off, none⟩) dLen dCap) (hs : a.eval s = .slice (some ad) sLen sCap)
    (t : TypeId) (cur : List Value) (hB : Blk w g t cur) (cs : List Value) (hn : cs.length = Nat.min sLen dLen * k) (hsrc : ∀ j v, cs[j]? = some v → w.cell? (ad.add j) = some v)
    (hle : off + cs.length ≤ cur.length) (h1 : ∀ v ∈ cs, v.oneCell' = true)
    (h : ∀ w', Hid (Blk w' g t (spl cur off cs)) → Hid (Fr (fun k => k = g) w w') → Hid (w'.heap.size = w.heap.size) → wpList P ops Q rest (a.put op.dst (goInt (Nat.min sLen dLen))) w') : wpList P ops Q (op :: rest) a w :=
  wpList_plain hgd fun _ hK => wp_copyK d s dT sT ho elem k hu hsz g off dLen dCap ad sLen sCap hd hs t cur hB cs hn hsrc hle h1 fun w' a b c => hK _ _ (h w' a b c)

theorem zeroCells_length (z : Array Value) (n : Nat) : (Builtin.zeroCells z n).size = n * z.size := by simp [Builtin.zeroCells]
theorem zeroCells_one (z : Array Value) (n : Nat) (h : ∀ v ∈ z, v.oneCell' = true) : ∀ v ∈ (Builtin.zeroCells z n).toList, v.oneCell' = true := by
  intro v hv
  simp only [Builtin.zeroCells, Array.toList_map, List.mem_map, Array.mem_toList_iff, Array.mem_range] at hv
  obtain ⟨i, hi, rfl⟩ := hv
  have hz : 0 < z.size := by
    rcases Nat.eq_zero_or_pos z.size with h0 | h0
    · rw [h0, Nat.mul_zero] at hi; omega
    · exact h0
  have hm := Nat.mod_lt i hz
  rw [getElem!_pos z _ hm]
  exact h _ (Array.getElem_mem hm)
theorem run_clear_k (w : World) (t e ty : TypeId) (z : Value) (k : Nat) (ht : P.underlying t = some (.slice e)) (hv : ∀ w, (zeroValue e).run P w = .ok z w) (h1 : ∀ v ∈ z.cells, v.oneCell' = true) (b o n c : Nat)
    (hc : ∀ j, j < n * z.cells.size → (w.cell? ⟨b, o + j, none⟩).isSome = true) (hf : ∀ j, j < n * z.cells.size → w.frozen? ⟨b, o + j, none⟩ = false) :
    (Builtin.clear_ #[t] ty #[.slice (some ⟨b, o, none⟩) n c]).run P w = .ok (.tuple #[]) (w.setCells b o (Builtin.zeroCells z.cells n).toList) := by
  have hst := run_storeCells_cells (P := P) b o (Builtin.zeroCells z.cells n).toList 0 w (by simpa [zeroCells_length] using hc) (by simpa [zeroCells_length] using hf) (zeroCells_one _ _ h1)
  simp only [Nat.add_zero] at hst
  rcases Nat.eq_zero_or_pos n with rfl | hn
  · have : (Builtin.zeroCells z.cells 0).toList = [] := by simp [Builtin.zeroCells]
    simp [Builtin.clear_, run_underlying ht, this, World.setCells]
  · obtain ⟨m, rfl⟩ : ∃ m, n = m + 1 := ⟨n - 1, by omega⟩
    simp [Builtin.clear_, run_underlying ht, hv, hst]
/-- 'clear(s)' in a block that is known: what stands there behind is not told. -/
theorem wpL_clearK (hgd : op.guard = none) (x : Operand) (t e : TypeId) (ho : op.op = .call { callee := .builtin .clear, args := #[x], argTypes := #[t] }) (hdst : op.dst = none)
    (z : Value) (k : Nat) (ht : P.underlying t = some (.slice e)) (hv : ∀ w, (zeroValue e).run P w = .ok z w) (hzk : z.cells.size = k) (h1 : ∀ v ∈ z.cells, v.oneCell' = true)
    (g off n c : Nat) (hx : a.eval x = .slice (some ⟨g, off, none⟩) n c) (te : TypeId) (cur : List Value) (hB : Blk w g te cur) (hle : off + n * k ≤ cur.length)
    (h : ∀ w' zs, zs.length = n * k → Hid (Blk w' g te (spl cur off zs)) → Hid (Fr (fun k => k = g) w w') → Hid (w'.heap.size = w.heap.size) → wpList P ops Q rest a w') : wpList P ops Q (op :: rest) a w := by
  refine wpList_plain hgd fun K hK => ?_
  subst hzk
  have hth := hB.there off (n * z.cells.size) hle
  have hrun := run_clear_k (P := P) w t e op.type z z.cells.size ht hv h1 g off n c (fun j hj => (hth j hj).1) (fun j hj => (hth j hj).2)
  have hzl : (Builtin.zeroCells z.cells n).toList.length = n * z.cells.size := by simp [zeroCells_length]
  unfold Oper.wp
  simp [execOp, ho, resolve, invoke, builtin, hx, hrun, Result.andThen]
  have := hK _ _ (h _ _ hzl (hid (hB.sets _ off (by rw [hzl]; exact hle))) (hid ((Fr.refl (fun k => k = g) w).setCells g off _ (.inl rfl))) (hid (by simp)))
  show K (a.put op.dst (Value.tuple #[])) _
  rw [hdst]
  exact this
/-- 'append(s[:i], make([]T, m)...)' without room. -/
theorem wpL_appendZ (hgd : op.guard = none) (s x : Operand) (t tn : TypeId) (ho : op.op = .call { callee := .builtin .append, args := #[s, x], argTypes := #[t, tn] })
    (e : TypeId) (i : TypeInfo) (z : Value) (k : Nat) (kq kn : IntKind) (ht : P.underlying t = some (.slice e)) (htn : P.underlying tn = some (.int kn)) (hi : P.info? e = some i) (hz : i.zero = some z) (hik : i.size = k) (hzk : z.cells.size = k) (hk : 0 < k)
    (g sLen sCap m : Nat) (hs : a.eval s = .slice (some ⟨g, 0, none⟩) sLen sCap) (hx : a.eval x = .int kq m) (te : TypeId) (cur : List Value) (hB : Blk w g te cur) (olds : List Value) (hol : olds.length = sLen * k) (hot : cur.take (sLen * k) = olds)
    (hm : 0 < m) (hc0 : 0 < sCap) (hroom : sLen + m = sCap + 1) (hmax : sCap + 1 ≤ maxLen) (hby : (sCap + 1) * i.bytes ≤ 140737488355328)
    (h : ∀ w' zs cap', sCap + 1 ≤ cap' → cap' ≤ maxLen → (olds ++ zs).length = cap' * k → Hid (Blk w' w.heap.size e (olds ++ zs)) → Hid (Fr No w w') → Hid (w'.heap.size = w.heap.size + 1) →
      wpList P ops Q rest (a.put op.dst (.slice (some ⟨w.heap.size, 0, none⟩) (sLen + m) cap')) w') : wpList P ops Q (op :: rest) a w := by
  have hcells : ∀ j v, olds[j]? = some v → w.drew.cell? ((⟨g, 0, none⟩ : Addr).add j) = some v := fun j v hj => by
    have hl : j < olds.length := (List.getElem?_eq_some_iff.1 hj).1
    rw [Addr.add_mid, Nat.zero_add, hB.drew.cell]
    rw [← hot, List.getElem?_take] at hj
    rw [← hj, if_pos (by omega)]
  have hold := run_firstCells_some (P := P) w.drew i.size sLen ⟨g, 0, none⟩ sLen sCap olds (by rw [hik]; exact hol) hcells
  have hfit : Builtin.nextslicecap (sLen + m) sCap * i.bytes ≤ 281474976710656 := by
    have h1 := nextslicecap_succ (old := sCap) hc0
    rw [hroom]
    have h2 : Builtin.nextslicecap (sCap + 1) sCap * i.bytes ≤ 2 * sCap * i.bytes := Nat.mul_le_mul_right _ h1
    have h3 : (sCap + 1) * i.bytes = sCap * i.bytes + i.bytes := Nat.succ_mul _ _
    rw [Nat.mul_assoc] at h2
    omega
  have hmx : sCap + 1 ≤ 9223372036854775807 := Nat.le_trans hmax (by unfold maxLen; decide)
  have hmb : m * i.bytes ≤ 281474976710656 := by
    have : m * i.bytes ≤ (sCap + 1) * i.bytes := Nat.mul_le_mul_right _ (by omega)
    omega
  have hrun := Lib.run_append_grow_zeros (P := P) w t tn op.type e i z kq kn ht htn hi hz (some ⟨g, 0, none⟩) sLen sCap olds hold m hm (by omega) (by omega) (by omega) hmb hfit
  have hg1 := grownCap_ge w (sLen + m) sCap e
  have hg2 := grownCap_le_maxLen w (sLen + m) sCap e (by omega)
  generalize hcap : grownCap w (sLen + m) sCap e = cap' at *
  refine wpList_plain hgd fun K hK => ?_
  have hB' : Blk (w.drew.alloc (.cells (olds.toArray ++ Builtin.zeroCells z.cells m ++ Builtin.zeroCells z.cells (cap' - (sLen + m))) e)) w.heap.size e (olds ++ ((Builtin.zeroCells z.cells m).toList ++ (Builtin.zeroCells z.cells (cap' - (sLen + m))).toList)) := by
    have := Blk.new w.drew e (olds ++ ((Builtin.zeroCells z.cells m).toList ++ (Builtin.zeroCells z.cells (cap' - (sLen + m))).toList))
    have e : olds.toArray ++ Builtin.zeroCells z.cells m ++ Builtin.zeroCells z.cells (cap' - (sLen + m)) = (olds ++ ((Builtin.zeroCells z.cells m).toList ++ (Builtin.zeroCells z.cells (cap' - (sLen + m))).toList)).toArray := by
      apply Array.ext'; simp
    rw [e]
    exact this
  have := hK _ _ (h _ _ cap' (by omega) hg2 (by
    simp only [List.length_append, Array.length_toList, zeroCells_length, hol, hzk]
    rw [← Nat.add_mul, ← Nat.add_mul]
    congr 1; omega) (hid hB') (hid ((Fr.refl No w).drew.alloc _)) (hid (by simp)))
  unfold Oper.wp execOp
  simp only [ho, resolve, invoke, builtin, Sem.run_bind, Sem.run_pure, Result.andThen_ok, List.map_toArray, List.map_cons, List.map_nil, hs, hx, hrun]
  exact this
theorem run_storeV (w : World) (b o : Nat) (ty : TypeId) (v : Value) (vs : List Value) (hvs : v.cells = vs.toArray) (ht : w.there b o vs.length) (hi : (P.info? ty).map (·.size) = some vs.length) (h1 : ∀ u ∈ vs, u.oneCell' = true) :
    (storeVar ty ⟨b, o, none⟩ v).run P w = .ok () (w.setCells b o vs) := by
  have := run_storeCells_cells (P := P) b o vs 0 w (fun j hj => by simpa using (ht j (by simpa using hj)).1) (fun j hj => by simpa using (ht j (by simpa using hj)).2) h1
  cases hq : P.info? ty with
  | none => simp [hq] at hi
  | some i =>
    have hi' : i.size = vs.length := by simpa [hq] using hi
    simp [storeVar, sizeOf, typeInfo, hq, hi', hvs, this]
/-- Any value is stored into a block that is known. -/
theorem wp_storeV {K : Act → World → Prop} (ty : TypeId) (x y : Operand) (ho : op.op = .store ty x y) (b o : Nat) (v : Value) (vs : List Value) (hx : a.eval x = .pointer (some ⟨b, o, none⟩)) (hy : a.eval y = v) (hvs : v.cells = vs.toArray)
    (t : TypeId) (cs : List Value) (hB : Blk w b t cs) (hle : o + vs.length ≤ cs.length) (hi : (P.info? ty).map (·.size) = some vs.length) (h1 : ∀ u ∈ vs, u.oneCell' = true)
    (h : ∀ w', Hid (Blk w' b t (spl cs o vs)) → Hid (Fr (fun k => k = b) w w') → Hid (w'.heap.size = w.heap.size) → K (a.put op.dst undef) w') : op.wp P a w K Q := by
  unfold Oper.wp execOp
  simp only [ho, hx, hy, Instr.storeAt, Instr.sureAddr, Sem.run_bind, Sem.run_pure, Result.andThen_ok, run_storeV w b o ty v vs hvs (hB.there o vs.length hle) hi h1]
  exact h _ (hid (hB.sets vs o hle)) (hid ((Fr.refl (fun k => k = b) w).setCells b o vs (.inl rfl))) (hid (by simp))
theorem wpL_storeV (hgd : op.guard = none) (ty : TypeId) (x y : Operand) (ho : op.op = .store ty x y) (b o : Nat) (v : Value) (vs : List Value) (hx : a.eval x = .pointer (some ⟨b, o, none⟩)) (hy : a.eval y = v) (hvs : v.cells = vs.toArray)
    (t : TypeId) (cs : List Value) (hB : Blk w b t cs) (hle : o + vs.length ≤ cs.length) (hi : (P.info? ty).map (·.size) = some vs.length) (h1 : ∀ u ∈ vs, u.oneCell' = true)
    (h : ∀ w', Hid (Blk w' b t (spl cs o vs)) → Hid (Fr (fun k => k = b) w w') → Hid (w'.heap.size = w.heap.size) → wpList P ops Q rest (a.put op.dst undef) w') : wpList P ops Q (op :: rest) a w :=
  wpList_plain hgd fun _ hK => wp_storeV ty x y ho b o v vs hx hy hvs t cs hB hle hi h1 fun w' a b c => hK _ _ (h w' a b c)
/-- 'append(s, x...)' in place. -/
theorem wp_appendR {K : Act → World → Prop} (s x : Operand) (t : TypeId) (ho : op.op = .call { callee := .builtin .append, args := #[s, x], argTypes := #[t, t] })
    (e : TypeId) (i : TypeInfo) (k : Nat) (ht : P.underlying t = some (.slice e)) (hi : P.info? e = some i) (hik : i.size = k)
    (g sLen sCap m c : Nat) (ad : Addr) (hs : a.eval s = .slice (some ⟨g, 0, none⟩) sLen sCap) (hx : a.eval x = .slice (some ad) m c) (te : TypeId) (cur : List Value) (hB : Blk w g te cur)
    (news : List Value) (hl : news.length = m * k) (hsrc : ∀ j u, news[j]? = some u → w.cell? (ad.add j) = some u) (h1 : ∀ u ∈ news, u.oneCell' = true) (hroom : sLen + m ≤ sCap) (hle : sLen * k + news.length ≤ cur.length)
    (h : ∀ w', Hid (Blk w' g te (spl cur (sLen * k) news)) → Hid (Fr (fun k => k = g) w w') → Hid (w'.heap.size = w.heap.size) → K (a.put op.dst (.slice (some ⟨g, 0, none⟩) (sLen + m) sCap)) w') : op.wp P a w K Q := by
  have hth := hB.there (sLen * k) news.length hle
  have hrun := run_append_room_cells (P := P) w t op.type e i ht hi g 0 sLen sCap ad m c news (by rw [hik]; exact hl) hsrc h1 hroom (by rw [hik]; intro j hj; rw [Nat.zero_add]; exact (hth j hj).1) (by rw [hik]; intro j hj; rw [Nat.zero_add]; exact (hth j hj).2)
  rw [hik, Nat.zero_add] at hrun
  unfold Oper.wp execOp
  simp only [ho, resolve, invoke, builtin, Sem.run_bind, Sem.run_pure, Result.andThen_ok, List.map_toArray, List.map_cons, List.map_nil, hs, hx, hrun]
  exact h _ (hid (hB.sets news _ hle)) (hid ((Fr.refl (fun k => k = g) w).setCells g _ _ (.inl rfl))) (hid (by simp))
end
end Go.Proofs.YtflfmkokfbgclaaGreat.TR

namespace Go.Proofs.YtflfmkokfbgclaaGreat.TR
set_option maxRecDepth 100000
open Go.RowKit K

def Found (p : Nat → Bool) (n : Nat) (w : World) (e : Ending) (w' : World) : Prop :=
  ∃ i : Nat, e = .returned (.int .i64 i) ∧ i ≤ n ∧ (∀ j, j < i → p j = false) ∧ (∀ j, i ≤ j → j < n → p j = true) ∧ Fr No w w'

set_option maxHeartbeats 1000000 in
theorem search_any (n : Nat) (f : FuncId) (cap : List Value) (p : Nat → Bool) (w : World) (hn : n ≤ 4611686018427387904) (hent : ∀ (vs : Array Value) (w : World), (callFunc f vs).run Tryz.prog w = .ok (.enter f vs) w)
    (hf : ∀ (i : Nat) (W : World), i < n → Fr No w W → Calls Tryz.prog f (Value.int .i64 i :: cap).toArray W fun e W' => e = .returned (.bool (p i)) ∧ Fr No W W')
    (hm : ∀ i j, i ≤ j → j < n → p i = true → p j = true) :
    Calls Tryz.prog 112 #[.int .i64 n, .func (.func f) #[] cap.toArray] w (Found p n w) := by
  have Hf := hid hf; have Hm := hid hm; have He := hid hent
  clear hf hm hent
  go_enter Tryz.func112, Tryz.ntmps112
  go_wp2
  go_loopw [5, 6] (fun i j wr => ∃ a b : Nat, i = .int .i64 a ∧ j = .int .i64 b ∧ a ≤ b ∧ b ≤ n ∧ Hid (Fr No w wr) ∧ Hid (∀ k, k < a → p k = false) ∧ Hid (∀ k, b ≤ k → k < n → p k = true)) (fun i j _ => (intOf j).toNat - (intOf i).toNat)
  case atStart => exact ⟨0, n, rfl, rfl, Nat.zero_le _, Nat.le_refl _, hid (Fr.refl _ _), hid (fun k hk => by omega), hid (fun k h1 h2 => by omega)⟩
  case round =>
    obtain ⟨a, b, rfl, rfl, hab, hbn, HF, H1, H2⟩ := hrel
    by_cases hlt : a < b
    · go_wp2_with fail
      rw [He.out, show ((a : Int) + b) / 2 = (((a + b) / 2 : Nat) : Int) from by omega]
      generalize hc : (a + b) / 2 = c
      have hac : a ≤ c := by omega
      have hcb : c < b := by omega
      clear hc
      refine (Hf.out c wr (by omega) HF.out).mono ?_
      rintro e w1 ⟨rfl, hf1⟩
      have HF1 : Hid (Fr No w w1) := hid (HF.out.trans' hf1)
      clear hf1
      cases hp : p c
      · have H1' : Hid (∀ k, k < c + 1 → p k = false) := hid (fun k hk => by
          cases hq : p k
          · rfl
          · have := Hm.out k c (by omega) (by omega) hq
            rw [hp] at this; cases this)
        go_wp2
        exact ⟨⟨c + 1, b, by go_num, rfl, by omega, hbn, HF1, H1', H2⟩, by simp [intOf]; omega⟩
      · have H2' : Hid (∀ k, c ≤ k → k < n → p k = true) := hid (fun k h1 h2 => Hm.out c k h1 h2 hp)
        go_wp2
        exact ⟨⟨a, c, rfl, rfl, hac, by omega, HF1, H1, H2'⟩, by simp [intOf]; omega⟩
    · have hab' : a = b := by omega
      subst hab'
      go_wp2
      go_ret
      exact ⟨a, rfl, hbn, H1.out, H2.out, HF.out⟩
end Go.Proofs.YtflfmkokfbgclaaGreat.TR

namespace Go.Proofs.YtflfmkokfbgclaaGreat.TR
set_option maxRecDepth 100000
open Go.RowKit K

/-- The block of a slice. -/
def Ob (v : Value) : Nat → Prop := fun k => v.ownBlock = some k
/-- A slice comes back: the old one's row or a new one. -/
def Put (w : World) (e : TypeId) (k : Nat) (v : Value) (n : Nat) (xs : List Value) (r : Ending) (w' : World) : Prop :=
  ∃ v', r = .returned v' ∧ w'.ownsRow 0 e k v' n xs ∧ Fr (Ob v) w w' ∧ ∀ g, v'.ownBlock = some g → v.ownBlock = some g ∨ w.heap.size ≤ g
theorem own_open {w : World} {e : TypeId} {k : Nat} {v : Value} {n : Nat} {xs : List Value} (h : w.ownsRow 0 e k v n xs) (hn : 0 < n) :
    ∃ g cap cur, v = .slice (some ⟨g, 0, none⟩) n cap ∧ Blk w g e cur ∧ n ≤ cap ∧ cap ≤ maxLen ∧ cur.length = cap * k ∧ cur.take (n * k) = xs := by
  rcases h.2 with ⟨_, h0⟩ | ⟨g, cap, cur, hv, -, hg, h1, h2, h3, h4⟩
  · omega
  · exact ⟨g, cap, cur.toList, hv, by simpa [Blk] using hg, h1, h2, by simpa using h3, h4⟩
theorem own_mk {w : World} {e : TypeId} {k g n cap : Nat} {cur xs : List Value} (hB : Blk w g e cur) (h1 : n ≤ cap) (h2 : cap ≤ maxLen) (h3 : cur.length = cap * k) (h4 : cur.take (n * k) = xs) : w.ownsRow 0 e k (.slice (some ⟨g, 0, none⟩) n cap) n xs := by
  refine hB.own (Nat.zero_le _) ?_ h1 h2 h3 h4
  rw [← h4, List.length_take, h3]
  exact Nat.min_eq_left (Nat.mul_le_mul_right _ h1)
theorem put_mk {w w' : World} {e : TypeId} {k : Nat} {v : Value} {g n c : Nat} {xs : List Value} (h1 : w'.ownsRow 0 e k (.slice (some ⟨g, 0, none⟩) n c) n xs) (h2 : Fr (Ob v) w w') (h3 : v.ownBlock = some g ∨ w.heap.size ≤ g) : Put w e k v n xs (.returned (.slice (some ⟨g, 0, none⟩) n c)) w' := by
  refine ⟨_, rfl, h1, h2, fun g' hg' => ?_⟩
  have e : some g = some g' := hg'
  cases e
  exact h3
theorem spl_new (A zs x B : List Value) (h : x.length + B.length ≤ zs.length) : (spl (spl (A ++ zs) A.length x) (A.length + x.length) B).take (A.length + x.length + B.length) = A ++ x ++ B ∧ (spl (spl (A ++ zs) A.length x) (A.length + x.length) B).length = (A ++ zs).length := by
  have e1 : spl (A ++ zs) A.length x = (A ++ x) ++ zs.drop x.length := by
    unfold spl; rw [List.take_left, List.drop_length_add_append, List.append_assoc]
  have e2 : (spl (spl (A ++ zs) A.length x) (A.length + x.length) B) = (A ++ x ++ B) ++ (zs.drop x.length).drop B.length := by
    rw [e1, ← List.length_append]
    unfold spl; rw [List.take_left, List.drop_length_add_append]
  rw [e2]
  refine ⟨?_, by simp; omega⟩
  rw [show A.length + x.length + B.length = (A ++ x ++ B).length by simp [Nat.add_assoc], List.take_left]
theorem spl_shift (cur B x : List Value) (o p : Nat) (hp : p = o + x.length) (h : p + B.length ≤ cur.length) : (spl (spl cur p B) o x).take (p + B.length) = cur.take o ++ x ++ B ∧ (spl (spl cur p B) o x).length = cur.length := by
  have e1 : spl cur p B = cur.take p ++ (B ++ cur.drop (p + B.length)) := by unfold spl; rw [List.append_assoc]
  have hl : (cur.take p).length = p := by simp; omega
  have e2 : spl (spl cur p B) o x = (cur.take o ++ x ++ B) ++ cur.drop (p + B.length) := by
    rw [e1]
    unfold spl
    have a1 : (cur.take p ++ (B ++ cur.drop (p + B.length))).take o = cur.take o := by
      rw [List.take_append_of_le_length (by omega), List.take_take, Nat.min_eq_left (by omega)]
    have a2 : (cur.take p ++ (B ++ cur.drop (p + B.length))).drop (o + x.length) = B ++ cur.drop (p + B.length) := by
      rw [← hp]
      have := List.drop_left (l₁ := cur.take p) (l₂ := B ++ cur.drop (p + B.length))
      rwa [hl] at this
    rw [a1, a2]; simp
  rw [e2]
  have hl2 : (cur.take o ++ x ++ B).length = p + B.length := by simp; omega
  refine ⟨?_, by simp; omega⟩
  rw [← hl2, List.take_left]

/-! ### Nodes -/
def sv (ks : List S) : List Value := ks.map .string
@[simp] theorem sv_length (ks : List S) : (sv ks).length = ks.length := by simp [sv]
theorem sv_one (ks : List S) : ∀ u ∈ sv ks, u.oneCell' = true := by
  intro u hu
  obtain ⟨x, -, rfl⟩ := List.mem_map.1 hu
  rfl
/-- A node in memory: its block, its keys' slice, its contents' slice. -/
structure NdAt (w : World) (T e : TypeId) (k b : Nat) (kv cv : Value) (ks : List S) (cs : List Value) : Prop where
  blk : Blk w b T [kv, cv]
  rk : w.ownsRow 0 9 1 kv ks.length (sv ks)
  rc : w.ownsRow 0 e k cv ks.length cs
  one : ∀ u ∈ cs, u.oneCell' = true
  n1 : kv.ownBlock ≠ some b
  n2 : cv.ownBlock ≠ some b
  n3 : ∀ g, kv.ownBlock = some g → cv.ownBlock ≠ some g
/-- Its blocks. -/
def Own (b : Nat) (kv cv : Value) : Nat → Prop := fun g => g = b ∨ kv.ownBlock = some g ∨ cv.ownBlock = some g
theorem own_lt {w : World} {e : TypeId} {k : Nat} {v : Value} {n : Nat} {xs : List Value} (h : w.ownsRow 0 e k v n xs) (g : Nat) (hg : v.ownBlock = some g) : g < w.heap.size := by
  rcases h.2 with ⟨rfl, _⟩ | ⟨g', cap, cur, rfl, -, h1, -⟩
  · cases hg
  · cases hg; exact (Array.getElem?_eq_some_iff.1 h1).1
theorem own_one {w : World} {e : TypeId} {k : Nat} {v : Value} {n : Nat} {xs : List Value} (h : w.ownsRow 0 e k v n xs) : v.oneCell' = true := by
  rcases h.2 with ⟨rfl, _⟩ | ⟨g', cap, cur, rfl, -, h1, -⟩ <;> rfl
theorem NdAt.lt {w : World} {T e : TypeId} {k b : Nat} {kv cv : Value} {ks : List S} {cs : List Value} (h : NdAt w T e k b kv cv ks cs) : ∀ g, Own b kv cv g → g < w.heap.size := by
  rintro g (rfl | hg | hg)
  · exact h.blk.lt
  · exact own_lt h.rk g hg
  · exact own_lt h.rc g hg
theorem NdAt.fr {D : Nat → Prop} {w w' : World} {T e : TypeId} {k b : Nat} {kv cv : Value} {ks : List S} {cs : List Value} (h : NdAt w T e k b kv cv ks cs) (hf : Fr D w w') (hd : ∀ g, Own b kv cv g → ¬ D g) : NdAt w' T e k b kv cv ks cs :=
  ⟨h.blk.fr hf (hd b (.inl rfl)), own_fr h.rk hf (fun g hg => hd g (.inr (.inl hg))), own_fr h.rc hf (fun g hg => hd g (.inr (.inr hg))), h.one, h.n1, h.n2, h.n3⟩
/-- What a call on a node leaves. -/
def NdPost (w : World) (T e : TypeId) (k b : Nat) (kv cv : Value) (ks : List S) (cs : List Value) (w' : World) : Prop :=
  ∃ kv' cv', NdAt w' T e k b kv' cv' ks cs ∧ Fr (Own b kv cv) w w' ∧ ∀ g, Own b kv' cv' g → Own b kv cv g ∨ w.heap.size ≤ g
theorem spl_set (cs : List Value) (o : Nat) (v : Value) (h : o < cs.length) : spl cs o [v] = cs.set o v := by
  rw [← spl_cons _ _ _ _ h, spl_nil]
/-- Both slices were turned, one behind the other. -/
theorem nd_turn {w w1 w2 w3 w4 : World} {T e : TypeId} {k b : Nat} {kv cv kv' cv' : Value} {ks ks' : List S} {cs cs' : List Value} (h : NdAt w T e k b kv cv ks cs)
    (f1 : Fr (Ob kv) w w1) (o1 : w1.ownsRow 0 9 1 kv' ks'.length (sv ks')) (g1 : ∀ g, kv'.ownBlock = some g → kv.ownBlock = some g ∨ w.heap.size ≤ g)
    (f2 : Fr (fun g => g = b) w1 w2) (f3 : Fr (Ob cv) w2 w3) (o3 : w3.ownsRow 0 e k cv' ks'.length cs') (g3 : ∀ g, cv'.ownBlock = some g → cv.ownBlock = some g ∨ w2.heap.size ≤ g)
    (f4 : Fr (fun g => g = b) w3 w4) (b4 : Blk w4 b T [kv', cv']) (hone : ∀ u ∈ cs', u.oneCell' = true) : NdPost w T e k b kv cv ks' cs' w4 := by
  have hb : b < w.heap.size := h.blk.lt
  have s1 := f1.size; have s2 := f2.size; have s3 := f3.size
  have k1 : ∀ g, kv'.ownBlock = some g → g ≠ b := fun g hg e => (g1 g hg).elim (fun h1 => h.n1 (by rw [h1, e])) (fun h1 => by omega)
  have k2 : ∀ g, cv'.ownBlock = some g → g ≠ b := fun g hg e => (g3 g hg).elim (fun h1 => h.n2 (by rw [h1, e])) (fun h1 => by omega)
  have k3 : ∀ g, kv'.ownBlock = some g → cv.ownBlock ≠ some g := fun g hg e => (g1 g hg).elim (fun h1 => h.n3 g h1 e) (fun h1 => by have := own_lt h.rc g e; omega)
  have o2 := own_fr o1 f2 (fun g hg e => k1 g hg e)
  refine ⟨kv', cv', ⟨b4, own_fr (own_fr o2 f3 (fun g hg e => k3 g hg e)) f4 (fun g hg e => k1 g hg e), own_fr o3 f4 (fun g hg e => k2 g hg e), hone, fun e => k1 b e rfl, fun e => k2 b e rfl, fun g hk hc => ?_⟩, ?_, ?_⟩
  · rcases g3 g hc with h1 | h1
    · exact k3 g hk h1
    · have := own_lt o2 g hk; omega
  · exact (((f1.mono (fun g hg => .inr (.inl hg))).trans' (f2.mono (fun g hg => .inl hg))).trans' (f3.mono (fun g hg => .inr (.inr hg)))).trans' (f4.mono (fun g hg => .inl hg))
  · rintro g (hg | hg | hg)
    · exact .inl (.inl hg)
    · exact (g1 g hg).imp (fun x => .inr (.inl x)) id
    · exact (g3 g hg).imp (fun x => .inr (.inr x)) (fun x => by omega)
end Go.Proofs.YtflfmkokfbgclaaGreat.TR
