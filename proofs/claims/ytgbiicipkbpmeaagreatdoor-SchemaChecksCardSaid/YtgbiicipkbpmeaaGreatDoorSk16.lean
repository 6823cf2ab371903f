/-
  Part 16 of the proof: SdK, DrA, DrB, DrS, SdC, SdD.
-/
import Derived.Test.YtgbiicipkbpmeaaGreatDoorSk04
import Derived.Test.YtgbiicipkbpmeaaGreatDoorSk14
import Derived.Test.YtgbiicipkbpmeaaGreatDoorSk15
import Derived.Test.YtgbiicipkbpmeaaGreatDoorSk13
import Derived.Test.YtgbiicipkbpmeaaGreatDoorSk05
import Derived.Test.YtgbiicipkbpmeaaGreatDoorSk08
import Derived.Test.YtgbiicipkbpmeaaGreatDoorSk10
import Derived.Test.YtgbiicipkbpmeaaGreatDoorSk06
set_option linter.unusedSimpArgs false
set_option linter.unusedVariables false
namespace Go.Proofs.YtgbiicipkbpmeaaGreatDoor.SC
set_option maxRecDepth 100000
open BE DN
def cl0 : Cl := ⟨[], 0, [], [], []⟩
def clA (s : Sch) (i : Nat) : Cl := (s.cls[i]?).getD cl0
def abv (s : Sch) (i k : Nat) : Bool := decide (i ∈ (line s k).tail)
def isK1 (s : Sch) (i : Nat) : Bool := decide ((clA s i).kind = 1)
def hasA (en : Ent) (m : B) : Bool := en.any fun a => low a.1 == low m
def inB (l : List B) (m : B) : Bool := l.any fun x => low x == low m
def clsD (s : Sch) (en : Ent) : Set × Bool := match en.find? fun a => low a.1 == oc with
 | none => (none_, false)
 | some a => clVals s none_ true a.2
def pairB (s : Sch) (f : Set) (i k : Nat) : Bool := !(f i && f k && !decide (i = k) && isK1 s i && isK1 s k) || (abv s i k || abv s k i)
def chainB (s : Sch) (f : Set) : Bool := (List.range s.cls.length).all fun i => (List.range s.cls.length).all fun k => pairB s f i k
def someB (s : Sch) (f : Set) (n : Nat) : Bool := (List.range n).any fun i => f i && isK1 s i
def mustB (s : Sch) (en : Ent) (f : Set) : Bool := (List.range s.cls.length).all fun i => !f i || (clA s i).must.all fun m => hasA en m
def may1 (s : Sch) (f : Set) (a : Atr) (n : Nat) : Bool := (List.range n).any fun k => f k && (inB (clA s k).must a.1 || inB (clA s k).may a.1)
def mayA (s : Sch) (f : Set) (a : Atr) : Bool := decide (s.tyAt a.1 = some 0) || (tyOf s a.1).sys || may1 s f a s.cls.length
def mayB (s : Sch) (en : Ent) (f : Set) : Bool := en.all (mayA s f)
def checkD (s : Sch) (en : Ent) : Int :=
 if (chkAts s none_ en).2 = 0 then
  if (clsD s en).2 then
   if chainB s (clsD s en).1 && someB s (clsD s en).1 s.cls.length then
    if mustB s en (clsD s en).1 then (if mayB s en (clsD s en).1 then 0 else 135) else 134
   else 133
  else 133
 else (chkAts s none_ en).2
def isAD (s : Sch) (en : Ent) (c : B) : Bool := match s.clAt c with
 | none => false
 | some k => (clsD s en).1 k
theorem tyAt_low {s : Sch} {m n : B} (h : low m = low n) : s.tyAt m = s.tyAt n := by
 unfold Sch.tyAt fnd
 rw [h]
theorem tyAt_nm {s : Sch} {n : B} {i : Nat} (h : s.tyAt n = some i) : ∃ t, s.tys[i]? = some t ∧ low t.nm = low n := by
 unfold Sch.tyAt Sch.tn at h
 rw [fnd_ty] at h
 obtain ⟨hi, hq, -⟩ := List.findIdx?_eq_some_iff_getElem.1 h
 exact ⟨s.tys[i], List.getElem?_eq_getElem hi, beq_iff_eq.1 hq⟩
theorem low_of_ty {s : Sch} {m n : B} {i : Nat} (h : s.tyAt m = some i) (h2 : s.tyAt n = some i) : low m = low n := by
 obtain ⟨t, h3, h4⟩ := tyAt_nm h
 obtain ⟨u, h5, h6⟩ := tyAt_nm h2
 rw [h3] at h5
 cases h5
 rw [← h4, h6]
theorem ty0_oc {s : Sch} (hk : okS s = true) (n : B) : decide (s.tyAt n = some 0) = (low n == oc) := by
 obtain ⟨⟨h1, -, -⟩, h2, -, -⟩ := (okS_iff s).1 hk
 obtain ⟨t, ht⟩ : ∃ t, s.tys[0]? = some t := ⟨_, List.getElem?_eq_getElem (by omega)⟩
 have h3 := h2 t ht
 unfold rFirst at h3
 simp only [Bool.and_eq_true, decide_eq_true_eq] at h3
 rw [Bool.eq_iff_iff, decide_eq_true_eq, beq_iff_eq]
 constructor
 ·intro h
  obtain ⟨u, h4, h5⟩ := tyAt_nm h
  rw [ht] at h4
  cases h4
  rw [← h5]
  exact h3.1
 ·intro h
  unfold Sch.tyAt Sch.tn
  rw [fnd_ty, List.findIdx?_eq_some_iff_getElem]
  have hl : 0 < s.tys.length := by omega
  refine ⟨hl, ?_, fun j hj => by omega⟩
  have : s.tys[0] = t := by have := List.getElem?_eq_getElem hl; rw [ht] at this; exact (Option.some.inj this).symm
  rw [this, h3.1, h]
  simp
theorem cls_is {s : Sch} (hk : okS s = true) (en : Ent) : (clsD s en).1 = (classesOf s en).1 ∧ ((clsD s en).2 = true → (classesOf s en).2 = true) ∧ ((classesOf s en).2 = true → (clsD s en).2 = true ∨ (classesOf s en).1 = none_) := by
 have : (fun a : Atr => decide (s.tyAt a.1 = some 0)) = fun a => low a.1 == oc := by funext a; exact ty0_oc hk a.1
 unfold clsD classesOf
 rw [this]
 cases en.find? fun a => low a.1 == oc with
 | none => exact ⟨rfl, fun h => (by cases h), fun _ => .inr rfl⟩
 | some a => exact ⟨rfl, id, .inl⟩
theorem isA_is {s : Sch} (hk : okS s = true) (en : Ent) (c : B) : isA s en c = isAD s en c := by
 unfold isA isAD
 rw [(cls_is hk en).1]
 cases s.clAt c <;> rfl
theorem line_le {s : Sch} (hk : okS s = true) : ∀ (n k : Nat), k ≤ n → ∀ i ∈ (line s k).tail, i < k
 | n, k, hn, i, hi => by
  rw [line_eq hk] at hi
  cases hs : supAt s k with
  | none => rw [hs] at hi; cases hi
  | some j =>
   rw [hs] at hi
   have hj := sup_lt hk hs
   cases n with
   | zero => omega
   | succ n =>
   simp only [List.tail_cons] at hi
   rw [line_eq hk] at hi
   rcases List.mem_cons.1 hi with rfl | hi
   ·exact hj
   ·have := line_le hk n j (by omega) i (by rw [line_eq hk]; exact hi)
    omega
theorem line_self (s : Sch) (k : Nat) : ∃ r, line s k = k :: r := by
 unfold line
 cases k <;> exact ⟨_, rfl⟩
theorem line_total {s : Sch} (hk : okS s = true) : ∀ (n k : Nat), k ≤ n → ∀ i ∈ line s k, ∀ j ∈ line s k, i ∈ line s j ∨ j ∈ line s i
 | n, k, hn, i, hi, j, hj => by
  have hi0 := hi
  have hj0 := hj
  rw [line_eq hk] at hi hj
  rcases List.mem_cons.1 hi with rfl | hi
  ·exact .inr hj0
  ·rcases List.mem_cons.1 hj with rfl | hj
   ·exact .inl hi0
   ·cases hs : supAt s k with
    | none => rw [hs] at hi; cases hi
    | some m =>
     rw [hs] at hi hj
     have := sup_lt hk hs
     cases n with
     | zero => omega
     | succ n => exact line_total hk n m (by omega) i hi j hj
theorem abv_of {s : Sch} {i k : Nat} (h : i ∈ line s k) (hne : ¬ i = k) : abv s i k = true := by
 obtain ⟨r, hr⟩ := line_self s k
 unfold abv
 rw [hr] at h ⊢
 exact decide_eq_true ((List.mem_cons.1 h).resolve_left hne)
theorem puts_line (s : Sch) (f : Set) (k j : Nat) : puts f (line s k) j = (put f k j || abv s j k) := by
 obtain ⟨r, hr⟩ := line_self s k
 rw [puts_iff]
 unfold abv put
 rw [hr, Bool.eq_iff_iff]
 simp only [List.tail_cons, List.mem_cons, Bool.or_eq_true, decide_eq_true_eq, or_assoc]
 constructor
 ·rintro (h | h | h)
  ·exact .inl h
  ·exact .inr (.inl h)
  ·exact .inr (.inr (decide_eq_true h))
 ·rintro (h | h | h)
  ·exact .inl h
  ·exact .inr (.inl h)
  ·exact .inr (.inr (of_decide_eq_true h))
theorem isSt_is (s : Sch) (f : Set) (k : Nat) (hk : k < s.cls.length) : (f k && decide (s.cls[k]?.map (·.kind) = some 1)) = (f k && isK1 s k) := by
 unfold isK1 clA
 rw [List.getElem?_eq_getElem hk]
 simp
theorem chain_is {s : Sch} (hk : okS s = true) (f : Set) : chain s f = (chainB s f && someB s f s.cls.length) := by
 have hm : ∀ k, k ∈ strs1 s f ↔ k < s.cls.length ∧ (f k && isK1 s k) = true := fun k => by
  unfold strs1
  rw [List.mem_filter, List.mem_range]
  constructor
  ·rintro ⟨h1, h2⟩; exact ⟨h1, by rw [← isSt_is s f k h1]; exact h2⟩
  ·rintro ⟨h1, h2⟩; exact ⟨h1, by rw [isSt_is s f k h1]; exact h2⟩
 have hsome : someB s f s.cls.length = !(strs1 s f).isEmpty := by
  rw [Bool.eq_iff_iff]
  unfold someB
  rw [List.any_eq_true]
  constructor
  ·rintro ⟨k, h1, h2⟩
   have := (hm k).2 ⟨List.mem_range.1 h1, h2⟩
   cases h : strs1 s f with
   | nil => rw [h] at this; cases this
   | cons _ _ => rfl
  ·intro h
   cases h2 : strs1 s f with
   | nil => rw [h2] at h; cases h
   | cons k r =>
    have := (hm k).1 (by rw [h2]; exact List.mem_cons_self)
    exact ⟨k, List.mem_range.2 this.1, this.2⟩
 rw [hsome]
 unfold chain
 cases hl : (strs1 s f).getLast? with
 | none =>
  rw [List.getLast?_eq_none_iff.1 hl]
  simp
 | some k =>
  have hkm : k ∈ strs1 s f := List.mem_of_getLast? hl
  have hne : (strs1 s f).isEmpty = false := by
   cases h : strs1 s f with
   | nil => rw [h] at hkm; cases hkm
   | cons _ _ => rfl
  have hmax : ∀ j ∈ strs1 s f, j ≤ k := by
   intro j hj
   have hs : (strs1 s f).Pairwise (· < ·) := List.Pairwise.filter _ List.pairwise_lt_range
   obtain ⟨p, hp⟩ := List.getLast?_eq_some_iff.1 hl
   rw [hp] at hs hj
   rcases List.mem_append.1 hj with h | h
   ·exact Nat.le_of_lt ((List.pairwise_append.1 hs).2.2 j h k (List.mem_singleton.2 rfl))
   ·rw [List.mem_singleton.1 h]; exact Nat.le_refl _
  rw [hne, Bool.not_false, Bool.and_true]
  show (strs1 s f).all (fun j => puts none_ (line s k) j) = chainB s f
  rw [Bool.eq_iff_iff, List.all_eq_true]
  unfold chainB
  simp only [List.all_eq_true, List.mem_range]
  constructor
  ·intro h i hi j hj
   unfold pairB
   by_cases hc : (f i && f j && !decide (i = j) && isK1 s i && isK1 s j) = true
   ·rw [hc]
    simp only [Bool.and_eq_true, Bool.not_eq_true', decide_eq_false_iff_not] at hc
    have h1 := h i ((hm i).2 ⟨hi, by simp [hc]⟩)
    have h2 := h j ((hm j).2 ⟨hj, by simp [hc]⟩)
    rw [puts_iff] at h1 h2
    simp only [none_, Bool.false_or, decide_eq_true_eq] at h1 h2
    rcases line_total hk k k (Nat.le_refl _) i h1 j h2 with h3 | h3
    ·rw [abv_of h3 hc.1.1.2]; simp
    ·rw [abv_of h3 (fun e => hc.1.1.2 e.symm)]; simp
   ·simp only [Bool.not_eq_true] at hc
    rw [hc]; rfl
  ·intro h j hj
   have hj2 := (hm j).1 hj
   have hk2 := (hm k).1 hkm
   rw [puts_iff]
   simp only [none_, Bool.false_or, decide_eq_true_eq]
   by_cases e : j = k
   ·obtain ⟨r, hr⟩ := line_self s k
    rw [hr, e]; exact List.mem_cons_self
   ·have := h j hj2.1 k hk2.1
    unfold pairB at this
    simp only [Bool.and_eq_true] at hj2 hk2
    simp only [hj2.2.1, hj2.2.2, hk2.2.1, hk2.2.2, e, decide_false, Bool.not_false, Bool.and_self, Bool.not_true, Bool.false_or, Bool.or_eq_true] at this
    rcases this with h3 | h3
    ·unfold abv at h3
     exact List.mem_of_mem_tail (of_decide_eq_true h3)
    ·unfold abv at h3
     have := line_le hk j j (Nat.le_refl _) k (of_decide_eq_true h3)
     have := hmax j hj
     omega
theorem mem_mustF (s : Sch) (f : Set) (i : Nat) : ∀ n, n ≤ s.cls.length → (mustF s f n i = true ↔ ∃ k, k < n ∧ f k = true ∧ i ∈ ats s (clA s k).must)
 | 0, _ => ⟨fun h => (by cases h), fun ⟨k, h, _⟩ => by omega⟩
 | n + 1, hn => by
  have hc : s.cls[n]? = some (clA s n) := by unfold clA; rw [List.getElem?_eq_getElem (by omega)]; rfl
  rw [mustF_step s f hc]
  have ih := mem_mustF s f i n (by omega)
  cases hf : f n with
  | false =>
   rw [if_neg (by decide), ih]
   constructor
   ·rintro ⟨k, h1, h2, h3⟩; exact ⟨k, by omega, h2, h3⟩
   ·rintro ⟨k, h1, h2, h3⟩
    refine ⟨k, ?_, h2, h3⟩
    rcases Nat.lt_or_ge k n with h | h
    ·exact h
    ·obtain rfl : k = n := by omega
     rw [hf] at h2; cases h2
  | true =>
   rw [if_pos rfl, puts_iff, Bool.or_eq_true, ih, decide_eq_true_eq]
   constructor
   ·rintro (⟨k, h1, h2, h3⟩ | h)
    ·exact ⟨k, by omega, h2, h3⟩
    ·exact ⟨n, by omega, hf, h⟩
   ·rintro ⟨k, h1, h2, h3⟩
    rcases Nat.lt_or_ge k n with h | h
    ·exact .inl ⟨k, h, h2, h3⟩
    ·obtain rfl : k = n := by omega
     exact .inr h3
theorem mem_mayF (s : Sch) (f : Set) (i : Nat) : ∀ n, n ≤ s.cls.length → (mayF s f n i = true ↔ ∃ k, k < n ∧ f k = true ∧ i ∈ ats s (clA s k).may)
 | 0, _ => ⟨fun h => (by cases h), fun ⟨k, h, _⟩ => by omega⟩
 | n + 1, hn => by
  have hc : s.cls[n]? = some (clA s n) := by unfold clA; rw [List.getElem?_eq_getElem (by omega)]; rfl
  rw [mayF_step s f hc]
  have ih := mem_mayF s f i n (by omega)
  cases hf : f n with
  | false =>
   rw [if_neg (by decide), ih]
   constructor
   ·rintro ⟨k, h1, h2, h3⟩; exact ⟨k, by omega, h2, h3⟩
   ·rintro ⟨k, h1, h2, h3⟩
    refine ⟨k, ?_, h2, h3⟩
    rcases Nat.lt_or_ge k n with h | h
    ·exact h
    ·obtain rfl : k = n := by omega
     rw [hf] at h2; cases h2
  | true =>
   rw [if_pos rfl, puts_iff, Bool.or_eq_true, ih, decide_eq_true_eq]
   constructor
   ·rintro (⟨k, h1, h2, h3⟩ | h)
    ·exact ⟨k, by omega, h2, h3⟩
    ·exact ⟨n, by omega, hf, h⟩
   ·rintro ⟨k, h1, h2, h3⟩
    rcases Nat.lt_or_ge k n with h | h
    ·exact .inl ⟨k, h, h2, h3⟩
    ·obtain rfl : k = n := by omega
     exact .inr h3
theorem must_ty {s : Sch} (hk : okS s = true) {k : Nat} (h : k < s.cls.length) : (∀ m ∈ (clA s k).must, ∃ i, s.tyAt m = some i) ∧ ∀ m ∈ (clA s k).may, ∃ i, s.tyAt m = some i := by
 have hc : s.cls[k]? = some (clA s k) := by unfold clA; rw [List.getElem?_eq_getElem h]; rfl
 have hr : rCl s.tn [] s.cls = true := by
  have h1 := hk
  unfold okS at h1
  simp only [Bool.and_eq_true] at h1
  exact h1.2.2
 obtain ⟨-, -, -, h1, h2⟩ := rCl_at s.cls [] s.tn k _ hr hc
 unfold has at h1 h2
 rw [List.all_eq_true] at h1 h2
 exact ⟨fun m hm => Option.isSome_iff_exists.1 (h1 m hm), fun m hm => Option.isSome_iff_exists.1 (h2 m hm)⟩
theorem mem_ats {s : Sch} {l : List B} (h : ∀ m ∈ l, ∃ i, s.tyAt m = some i) {n : B} {i : Nat} (hn : s.tyAt n = some i) : i ∈ ats s l ↔ inB l n = true := by
 unfold ats inB
 rw [List.mem_map, List.any_eq_true]
 constructor
 ·rintro ⟨m, h1, h2⟩
  obtain ⟨j, hj⟩ := h m h1
  rw [hj] at h2
  obtain rfl : j = i := h2
  exact ⟨m, h1, beq_iff_eq.2 (low_of_ty hj hn)⟩
 ·rintro ⟨m, h1, h2⟩
  refine ⟨m, h1, ?_⟩
  rw [tyAt_low (beq_iff_eq.1 h2), hn]
  rfl
theorem must_is {s : Sch} (hk : okS s = true) (en : Ent) (f : Set) : okMust s (puts none_ (pos s en)) f = mustB s en f := by
 have hl : s.tys.length ≤ 40 := ((okS_iff s).1 hk).1.2.1
 rw [Bool.eq_iff_iff]
 unfold okMust mustB
 simp only [List.all_eq_true, List.mem_range, Bool.not_eq_true', Bool.or_eq_true]
 constructor
 ·intro h k hkn
  cases hf : f k with
  | false => exact .inl rfl
  | true =>
   refine .inr fun m hm => ?_
   obtain ⟨i, hi⟩ := (must_ty hk hkn).1 m hm
   have h1 := h i (by have := tyAt_lt hk hi; omega)
   have h2 := (mem_mustF s f i s.cls.length (Nat.le_refl _)).2 ⟨k, hkn, hf, (mem_ats (must_ty hk hkn).1 hi).2 (by unfold inB; rw [List.any_eq_true]; exact ⟨m, hm, beq_self_eq_true _⟩)⟩
   rw [h2, puts_iff] at h1
   simp only [none_, Bool.false_or, Bool.true_and, Bool.not_eq_false', decide_eq_true_eq] at h1
   obtain ⟨a, ha, hai⟩ := List.mem_filterMap.1 h1
   unfold hasA
   rw [List.any_eq_true]
   exact ⟨a, ha, beq_iff_eq.2 (low_of_ty hai hi)⟩
 ·intro h i _
  by_cases h2 : mustF s f s.cls.length i = true
  ·obtain ⟨k, hkn, hf, hi⟩ := (mem_mustF s f i s.cls.length (Nat.le_refl _)).1 h2
   unfold ats at hi
   obtain ⟨m, hm, hmi⟩ := List.mem_map.1 hi
   obtain ⟨j, hj⟩ := (must_ty hk hkn).1 m hm
   rw [hj] at hmi
   obtain rfl : j = i := hmi
   have h3 := (h k hkn).resolve_left (by rw [hf]; decide) m hm
   unfold hasA at h3
   rw [List.any_eq_true] at h3
   obtain ⟨a, ha, hal⟩ := h3
   have : j ∈ pos s en := List.mem_filterMap.2 ⟨a, ha, by rw [tyAt_low (beq_iff_eq.1 hal)]; exact hj⟩
   rw [puts_iff]
   simp [this]
  ·simp only [Bool.not_eq_true] at h2
   rw [h2]; rfl
theorem okMay_iff (s : Sch) (pr f : Set) : ∀ (l : List Ty) (i : Nat), okMayF s pr f i l = true ↔ ∀ j t, l[j]? = some t → okMay1 s pr f (i + j) t = true
 | [], _ => ⟨fun _ j t h => by simp at h, fun _ => rfl⟩
 | t :: r, i => by
  simp only [okMayF, Bool.and_eq_true]
  rw [okMay_iff s pr f r (i + 1)]
  constructor
  ·rintro ⟨h1, h2⟩ j u hj
   cases j with
   | zero =>
    obtain rfl : t = u := by simpa using hj
    exact h1
   | succ j => have := h2 j u (by simpa using hj); rwa [show i + 1 + j = i + (j + 1) by omega] at this
  ·intro h
   refine ⟨h 0 t rfl, fun j u hj => ?_⟩
   have := h (j + 1) u (by simpa using hj)
   rwa [show i + 1 + j = i + (j + 1) by omega]
theorem may_is {s : Sch} (hk : okS s = true) (en : Ent) (f : Set) (hg : ∀ a ∈ en, ∃ i, s.tyAt a.1 = some i) : okMayF s (puts none_ (pos s en)) f 0 s.tys = mayB s en f := by
 have key : ∀ a i, s.tyAt a.1 = some i → may1 s f a s.cls.length = (mustF s f s.cls.length i || mayF s f s.cls.length i) := by
  intro a i hi
  rw [Bool.eq_iff_iff, Bool.or_eq_true, mem_mustF s f i _ (Nat.le_refl _), mem_mayF s f i _ (Nat.le_refl _)]
  unfold may1
  rw [List.any_eq_true]
  constructor
  ·rintro ⟨k, h1, h2⟩
   rw [List.mem_range] at h1
   simp only [Bool.and_eq_true, Bool.or_eq_true] at h2
   rcases h2.2 with h3 | h3
   ·exact .inl ⟨k, h1, h2.1, (mem_ats (must_ty hk h1).1 hi).2 h3⟩
   ·exact .inr ⟨k, h1, h2.1, (mem_ats (must_ty hk h1).2 hi).2 h3⟩
  ·rintro (⟨k, h1, h2, h3⟩ | ⟨k, h1, h2, h3⟩)
   ·exact ⟨k, List.mem_range.2 h1, by rw [h2, (mem_ats (must_ty hk h1).1 hi).1 h3]; rfl⟩
   ·exact ⟨k, List.mem_range.2 h1, by rw [h2, (mem_ats (must_ty hk h1).2 hi).1 h3]; simp⟩
 rw [Bool.eq_iff_iff, okMay_iff]
 unfold mayB
 rw [List.all_eq_true]
 simp only [Nat.zero_add]
 constructor
 ·intro h a ha
  obtain ⟨i, hi⟩ := hg a ha
  have h1 := h i _ (tyAt_tys hi)
  have hp : puts none_ (pos s en) i = true := by
   rw [puts_iff]
   simp only [none_, Bool.false_or, decide_eq_true_eq]
   exact List.mem_filterMap.2 ⟨a, ha, hi⟩
  unfold okMay1 at h1
  unfold mayA
  rw [key a i hi, hi]
  rw [hp] at h1
  simp only [Option.some.injEq]
  revert h1
  generalize (tyOf s a.1).sys = b1
  generalize mustF s f s.cls.length i = b2
  generalize mayF s f s.cls.length i = b3
  generalize decide (i = 0) = b4
  revert b1 b2 b3 b4
  decide
 ·intro h i t ht
  by_cases hp : puts none_ (pos s en) i = true
  ·have hp2 := hp
   rw [puts_iff] at hp2
   simp only [none_, Bool.false_or, decide_eq_true_eq] at hp2
   obtain ⟨a, ha, hi⟩ := List.mem_filterMap.1 hp2
   have h1 := h a ha
   have ht2 := tyAt_tys hi
   rw [ht] at ht2
   cases ht2
   unfold okMay1
   unfold mayA at h1
   rw [key a i hi, hi] at h1
   rw [hp]
   simp only [Option.some.injEq] at h1
   revert h1
   generalize (tyOf s a.1).sys = b1
   generalize mustF s f s.cls.length i = b2
   generalize mayF s f s.cls.length i = b3
   generalize decide (i = 0) = b4
   revert b1 b2 b3 b4
   decide
  ·simp only [Bool.not_eq_true] at hp
   unfold okMay1
   rw [hp]; rfl
theorem check_is {s : Sch} (hk : okS s = true) (en : Ent) : check s en = checkD s en := by
 obtain ⟨c1, c2, c3⟩ := cls_is hk en
 unfold check checkD
 by_cases h : (chkAts s none_ en).2 = 0
 ·rw [if_pos h, if_pos h]
  rw [c1, ← chain_is hk]
  have hs := chkAts_set s en none_ h
  have hg := ((chkAts_iff s en none_).1 h).1
  by_cases h2 : (clsD s en).2 = true
  ·rw [c2 h2, h2, Bool.true_and, if_pos rfl]
   by_cases h3 : chain s (classesOf s en).1 = true
   ·rw [if_pos h3, if_pos h3]
    unfold chkTys
    rw [hs, must_is hk, may_is hk en _ (fun a ha => by obtain ⟨i, t, e, -⟩ := hg a ha; exact ⟨i, e⟩)]
   ·rw [if_neg h3, if_neg h3]
  ·rw [if_neg h2]
   by_cases h4 : (classesOf s en).2 = true
   ·have := (c3 h4).resolve_left h2
    have hch : chain s none_ = false := by
     have : strs1 s none_ = [] := by unfold strs1; simp [none_]
     unfold chain
     rw [this]; rfl
    rw [this, hch, Bool.and_false, if_neg (by decide)]
   ·simp only [Bool.not_eq_true] at h4
    rw [h4, Bool.false_and, if_neg (by decide)]
 ·rw [if_neg h, if_neg h]
def valsF (s : Sch) (en : Ent) : Nat → Ent → Int
 | _, [] => 0
 | i, a :: r => if s.tyAt a.1 = none ∨ idxI en (fun x => low x.1 == low a.1) < (i : Int) then 131
  else if chkVals (tyOf s a.1) a.2 = 0 then valsF s en (i + 1) r else chkVals (tyOf s a.1) a.2
theorem idx_before (p r : Ent) (q : Atr → Bool) : idxI (p ++ r) q < (p.length : Int) ↔ (idxI (p ++ r) q = -1 ∨ ∃ x ∈ p, q x = true) := by
 rcases idx_app p r q with ⟨j, h1, h2, h3⟩ | ⟨h1, h2⟩
 ·rw [h3]
  obtain ⟨hj, hq, -⟩ := List.findIdx?_eq_some_iff_getElem.1 h1
  exact ⟨fun _ => .inr ⟨p[j], List.getElem_mem _, hq⟩, fun _ => by omega⟩
 ·have hn : ∀ x ∈ p, q x = false := fun x hx => by have := List.findIdx?_eq_none_iff.1 h1 x hx; simpa using this
  constructor
  ·intro h
   rcases h2 with h2 | h2
   ·exact .inl h2
   ·omega
  ·rintro (h | ⟨x, hx, h⟩)
   ·rw [h]; omega
   ·rw [hn x hx] at h; cases h
theorem vals_is (s : Sch) (en : Ent) : ∀ (r p : Ent), en = p ++ r → (∀ a ∈ p, ∃ i, s.tyAt a.1 = some i) → valsF s en p.length r = (chkAts s (puts none_ (pos s p)) r).2
 | [], p, _, _ => rfl
 | a :: r, p, he, hp => by
  unfold valsF chkAts
  cases hat : s.tyAt a.1 with
  | none => simp
  | some i =>
   have hne : ¬ idxI en (fun x => low x.1 == low a.1) = -1 := by
    intro h
    rw [he] at h
    unfold idxI at h
    cases hf : (p ++ a :: r).findIdx? (fun x => low x.1 == low a.1) with
    | none =>
     have := List.findIdx?_eq_none_iff.1 hf a (List.mem_append.2 (.inr List.mem_cons_self))
     simp at this
    | some j => rw [hf] at h; simp only at h; omega
   have hs : idxI en (fun x => low x.1 == low a.1) < (p.length : Int) ↔ puts none_ (pos s p) i = true := by
    rw [he] at hne ⊢
    rw [idx_before, puts_iff]
    simp only [none_, Bool.false_or, decide_eq_true_eq, hne, false_or]
    constructor
    ·rintro ⟨x, hx, hl⟩
     exact List.mem_filterMap.2 ⟨x, hx, by rw [tyAt_low (beq_iff_eq.1 hl)]; exact hat⟩
    ·intro h
     obtain ⟨x, hx, hxi⟩ := List.mem_filterMap.1 h
     exact ⟨x, hx, beq_iff_eq.2 (low_of_ty hxi hat)⟩
   simp only [reduceCtorEq, false_or]
   by_cases hb : puts none_ (pos s p) i = true
   ·rw [if_pos (hs.2 hb), if_pos hb]
   ·rw [if_neg (fun h => hb (hs.1 h)), if_neg hb, tyAt_tys hat]
    simp only
    by_cases hc : chkVals (tyOf s a.1) a.2 = 0
    ·rw [if_pos hc, if_pos hc]
     have := vals_is s en r (p ++ [a]) (by rw [he]; simp) (fun b hb => by
      rcases List.mem_append.1 hb with h | h
      ·exact hp b h
      ·rw [List.mem_singleton.1 h]; exact ⟨i, hat⟩)
     rw [List.length_append] at this
     rw [show p.length + 1 = p.length + [a].length from rfl, this]
     have hpos : pos s (p ++ [a]) = pos s p ++ [i] := by unfold pos; rw [List.filterMap_append]; simp [hat]
     rw [hpos, puts_snoc]
    ·rw [if_neg hc, if_neg hc]
end Go.Proofs.YtgbiicipkbpmeaaGreatDoor.SC
namespace Go.Proofs.YtgbiicipkbpmeaaGreatDoor.DN
set_option maxRecDepth 100000
open Go.RowKit K BE
theorem let_n (c : UInt8) : isLet c = decide ((97 ≤ c.toNat ∧ c.toNat ≤ 122) ∨ (65 ≤ c.toNat ∧ c.toNat ≤ 90)) := by
 have := u8_all (fun c => isLet c == decide ((97 ≤ c.toNat ∧ c.toNat ≤ 122) ∨ (65 ≤ c.toNat ∧ c.toNat ≤ 90))) (by decide +kernel) c
 simpa using this
theorem dig_n (c : UInt8) : isDig c = decide (48 ≤ c.toNat ∧ c.toNat ≤ 57) := by
 have := u8_all (fun c => isDig c == decide (48 ≤ c.toNat ∧ c.toNat ≤ 57)) (by decide +kernel) c
 simpa using this
theorem sign_n (c : UInt8) : sign c = decide (c.toNat = 34 ∨ c.toNat = 43 ∨ c.toNat = 44 ∨ c.toNat = 59 ∨ c.toNat = 60 ∨ c.toNat = 62 ∨ c.toNat = 92) := by
 have := u8_all (fun c => sign c == decide (c.toNat = 34 ∨ c.toNat = 43 ∨ c.toNat = 44 ∨ c.toNat = 59 ∨ c.toNat = 60 ∨ c.toNat = 62 ∨ c.toNat = 92)) (by decide +kernel) c
 simpa using this
def hexN (c : UInt8) : Nat := match hexv c with
 | some x => x.toNat
 | none => 16
theorem hex_n (c : UInt8) : hexN c = if 48 ≤ c.toNat ∧ c.toNat ≤ 57 then c.toNat - 48 else if 97 ≤ c.toNat ∧ c.toNat ≤ 102 then c.toNat - 87 else if 65 ≤ c.toNat ∧ c.toNat ≤ 70 then c.toNat - 55 else 16 := by
 have := u8_all (fun c => hexN c == if 48 ≤ c.toNat ∧ c.toNat ≤ 57 then c.toNat - 48 else if 97 ≤ c.toNat ∧ c.toNat ≤ 102 then c.toNat - 87 else if 65 ≤ c.toNat ∧ c.toNat ≤ 70 then c.toNat - 55 else 16) (by decide +kernel) c
 simpa using this
theorem letter_any (c : UInt8) (w : World) : Calls Tryz.prog 211 #[.int .u8 (c.toNat : Int)] w fun e w' => e = .returned (.bool (isLet c)) ∧ w' = w := by
 rw [let_n]
 generalize c.toNat = n
 have hc : n < 65 ∨ (65 ≤ n ∧ n ≤ 90) ∨ (90 < n ∧ n < 97) ∨ (97 ≤ n ∧ n ≤ 122) ∨ 122 < n := by omega
 rcases hc with h | h | h | h | h
 ·have h1 : ¬ (97 : Int) ≤ n := by omega
  have h2 : ¬ (65 : Int) ≤ n := by omega
  rw [decide_eq_false (by omega)]
  clear h
  go_enter Tryz.func211, Tryz.ntmps211
  go_wp2
  go_ret
  exact ⟨rfl, rfl⟩
 ·have h1 : ¬ (97 : Int) ≤ n := by omega
  have h2 : (65 : Int) ≤ n := by omega
  have h3 : (n : Int) ≤ 90 := by omega
  rw [decide_eq_true (by omega)]
  clear h
  go_enter Tryz.func211, Tryz.ntmps211
  go_wp2
  go_ret
  exact ⟨rfl, rfl⟩
 ·have h1 : ¬ (97 : Int) ≤ n := by omega
  have h2 : (65 : Int) ≤ n := by omega
  have h3 : ¬ (n : Int) ≤ 90 := by omega
  rw [decide_eq_false (by omega)]
  clear h
  go_enter Tryz.func211, Tryz.ntmps211
  go_wp2
  go_ret
  exact ⟨rfl, rfl⟩
 ·have h1 : (97 : Int) ≤ n := by omega
  have h2 : (n : Int) ≤ 122 := by omega
  rw [decide_eq_true (by omega)]
  clear h
  go_enter Tryz.func211, Tryz.ntmps211
  go_wp2
  go_ret
  exact ⟨rfl, rfl⟩
 ·have h1 : (97 : Int) ≤ n := by omega
  have h2 : ¬ (n : Int) ≤ 122 := by omega
  have h3 : (65 : Int) ≤ n := by omega
  have h4 : ¬ (n : Int) ≤ 90 := by omega
  rw [decide_eq_false (by omega)]
  clear h
  go_enter Tryz.func211, Tryz.ntmps211
  go_wp2
  go_ret
  exact ⟨rfl, rfl⟩
theorem digit_any (c : UInt8) (w : World) : Calls Tryz.prog 212 #[.int .u8 (c.toNat : Int)] w fun e w' => e = .returned (.bool (isDig c)) ∧ w' = w := by
 rw [dig_n]
 generalize c.toNat = n
 by_cases h1 : 48 ≤ n
 ·have h1i : (48 : Int) ≤ n := by omega
  by_cases h2 : n ≤ 57
  ·have h2i : (n : Int) ≤ 57 := by omega
   rw [decide_eq_true (by omega)]
   clear h1 h2
   go_enter Tryz.func212, Tryz.ntmps212
   go_wp2
   go_ret
   exact ⟨rfl, rfl⟩
  ·have h2i : ¬ (n : Int) ≤ 57 := by omega
   rw [decide_eq_false (by omega)]
   clear h1 h2
   go_enter Tryz.func212, Tryz.ntmps212
   go_wp2
   go_ret
   exact ⟨rfl, rfl⟩
 ·have h1i : ¬ (48 : Int) ≤ n := by omega
  rw [decide_eq_false (by omega)]
  clear h1
  go_enter Tryz.func212, Tryz.ntmps212
  go_wp2
  go_ret
  exact ⟨rfl, rfl⟩
theorem signs_any (c : UInt8) (w : World) : Calls Tryz.prog 173 #[.int .u8 (c.toNat : Int)] w fun e w' => e = .returned (.bool (sign c)) ∧ w' = w := by
 rw [sign_n]
 generalize c.toNat = n
 obtain ⟨R, hR⟩ : ∃ R, decide (n = 34 ∨ n = 43 ∨ n = 44 ∨ n = 59 ∨ n = 60 ∨ n = 62 ∨ n = 92) = R := ⟨_, rfl⟩
 rw [hR]
 have HR := hid hR
 clear hR
 go_enter Tryz.func173, Tryz.ntmps173
 go_wp2
 all_goals go_ret
 all_goals refine ⟨?_, rfl⟩
 all_goals have h := HR.out
 all_goals first
  | (rw [decide_eq_true (by omega)] at h; subst h; rfl)
  | (subst h; refine congrArg (fun b => Ending.returned (Value.bool b)) ?_; rw [Bool.eq_iff_iff]; simp; omega)
theorem hex_any (c : UInt8) (w : World) : Calls Tryz.prog 174 #[.int .u8 (c.toNat : Int)] w fun e w' => e = .returned (.int .i64 (hexN c : Int)) ∧ w' = w := by
 obtain ⟨H, hH⟩ : ∃ H, hexN c = H := ⟨_, rfl⟩
 have h0 := hex_n c
 have hc := c.toNat_lt
 rw [hH] at h0 ⊢
 generalize c.toNat = n at h0 hc
 have hn0 : (0 : Int) ≤ n := by omega
 have hn1 : (n : Int) < 256 := by omega
 have HH := hid h0
 clear h0 hH hc
 go_enter Tryz.func174, Tryz.ntmps174
 go_wp2
 all_goals go_ret
 all_goals refine ⟨congrArg (fun x : Int => Ending.returned (Value.int .i64 x)) ?_, rfl⟩
 all_goals have h := HH.out
 all_goals (repeat' split at h) <;> omega
theorem hexv_lt16 {c x : UInt8} (h : hexv c = some x) : x.toNat < 16 := by
 have := u8_all (fun c => match hexv c with | some x => decide (x.toNat < 16) | none => true) (by decide +kernel) c
 rw [h] at this
 simpa using this
theorem hex_join {x y : UInt8} (hx : x.toNat < 16) (hy : y.toNat < 16) : (16 * x + y).toNat = 16 * x.toNat + y.toNat := by
 rw [UInt8.toNat_add, UInt8.toNat_mul]
 have : (16 : UInt8).toNat = 16 := rfl
 rw [this]
 omega
theorem one_bare (den : B) (r : B) {c : UInt8} (h92 : c ≠ 92) (h44 : c ≠ 44) (h43 : c ≠ 43) : one den c r = if c = 0 ∨ sign c = true ∨ (den = [] ∧ (c = 35 ∨ c = 32)) then none else some (c, c == 32, r) := by
 unfold one sign
 rw [if_neg h92]
 by_cases k0 : c = 0 <;> by_cases k1 : c = 34 <;> by_cases k2 : c = 59 <;> by_cases k3 : c = 60 <;> by_cases k4 : c = 62 <;> by_cases k5 : c = 35 <;> by_cases k6 : c = 32 <;> by_cases k7 : den = [] <;> simp_all
theorem esc_ok {d : UInt8} {r : B} (h : (sign d || d == 35 || d == 61 || d == 32) = true) : esc (d :: r) = some (d, r) := by
 unfold esc
 simp only [h, if_true]
theorem esc_no {d : UInt8} {r : B} (h : ¬ (sign d || d == 35 || d == 61 || d == 32) = true) : esc (d :: r) = match r with
  | [] => none
  | d2 :: r' => match hexv d, hexv d2 with
   | some x, some y => some (16 * x + y, r')
   | _, _ => none := by
 unfold esc
 simp only [h, Bool.false_eq_true, if_false]
 cases r <;> rfl
theorem exec_idxB {op : Oper} {a : Act} (x y : Operand) (ho : op.op = .index 9 x y) (l : B) {S : ByteArray} (hS : sb l = S) (i : Nat) (b : UInt8) (hi : l[i]? = some b) (n : Int) (hn : n = (i : Int)) (hx : a.eval x = .string S) (hy : a.eval y = .int .i64 n) (w : World) : (execOp a.eval op).run Tryz.prog w = .ok (.value (.int .u8 (b.toNat : Int))) w := by
 subst hS
 exact exec_idx x y ho l i b hi n hn hx hy w
theorem ok_n (c : UInt8) (f : Bool) : okAt f c = (isLet c || (!f && (isDig c || decide (c.toNat = 45)))) := by
 have h : (c == 45) = decide (c.toNat = 45) := by
  have := u8_all (fun c => (c == 45) == decide (c.toNat = 45)) (by decide +kernel) c
  simpa using this
 unfold okAt
 rw [h]
theorem typ_at {s : B} : typ s = true ↔ 1 ≤ s.length ∧ s.length ≤ 20 ∧ ∀ j c, s[j]? = some c → okAt (j == 0) c = true := by
 unfold typ
 cases s with
 | nil => simp
 | cons d r =>
  simp only [Bool.and_eq_true, decide_eq_true_eq, List.all_eq_true]
  constructor
  ·rintro ⟨⟨h1, h2⟩, h3, h4⟩
   refine ⟨h1, h2, fun j c hj => ?_⟩
   cases j with
   | zero =>
    obtain rfl : d = c := by simpa using hj
    exact h3
   | succ j =>
    have hj : r[j]? = some c := by simpa using hj
    exact h4 c (List.mem_of_getElem? hj)
  ·rintro ⟨h1, h2, h3⟩
   refine ⟨⟨h1, h2⟩, h3 0 d rfl, fun c hc => ?_⟩
   obtain ⟨j, hj, rfl⟩ := List.mem_iff_getElem.1 hc
   exact h3 (j + 1) r[j] (by simp [hj])
set_option maxHeartbeats 8000000 in
theorem rType_any (s : B) (hs : Sz s) (w : World) : Calls Tryz.prog 175 #[.string (sb s)] w fun e w' => e = .returned (.bool (typ s)) ∧ w' = w := by
 obtain ⟨S, hS⟩ : ∃ S, sb s = S := ⟨_, rfl⟩
 obtain ⟨n, hn⟩ : ∃ n, s.length = n := ⟨_, rfl⟩
 obtain ⟨R, hR⟩ : ∃ R, typ s = R := ⟨_, rfl⟩
 have hsz : (S.size : Int) = n := by rw [← hS, sb_size, hn]
 have hni : (n : Int) ≤ 140737488351232 := by have := hs; unfold Sz at this; omega
 have HS := hid hS; have HN := hid hn; have HR := hid hR
 rw [hS, hR]
 clear hS hn hR hs
 go_enter Tryz.func175, Tryz.ntmps175
 go_wp2_with fail
 go_loopw [3] (fun iv wr => ∃ (i : Nat), iv = .int .i64 i ∧ i ≤ n ∧ wr = w ∧ Hid (∀ j c, j < i → s[j]? = some c → okAt (j == 0) c = true)) (fun iv _ => n - (intOf iv).toNat)
 case atStart => exact ⟨0, rfl, Nat.zero_le _, rfl, hid fun j c hj _ => by omega⟩
 case round =>
  obtain ⟨i, rfl, hi, rfl, HA⟩ := hrel
  by_cases hlt : i < n
  ·obtain ⟨c, hc⟩ : ∃ c, s[i]? = some c := ⟨_, List.getElem?_eq_getElem (by rw [HN.out]; exact hlt)⟩
   have hlti : (i : Int) < n := by omega
   have hi0 : (0 : Int) ≤ i := by omega
   have HC := hid hc
   have HLT := hid hlt
   have HOK := hid (ok_n c (i == 0))
   have HBAD : Hid (okAt (i == 0) c = false → R = false) := hid (fun h => by
    rw [← HR.out]
    cases ht : typ s with
    | false => rfl
    | true => rw [(typ_at.1 ht).2.2 i c HC.out] at h; cases h)
   have HGOOD : Hid (okAt (i == 0) c = true → ∀ j c, j < i + 1 → s[j]? = some c → okAt (j == 0) c = true) := hid (fun h j d hj hd => by
    by_cases hji : j = i
    ·subst hji
     rw [HC.out] at hd
     obtain rfl := Option.some.inj hd
     exact h
    ·exact HA.out j d (by omega) hd)
   obtain ⟨L, hL⟩ : ∃ L, isLet c = L := ⟨_, rfl⟩
   obtain ⟨D, hD⟩ : ∃ D, isDig c = D := ⟨_, rfl⟩
   have HLA := hid (letter_any c); have HDA := hid (digit_any c)
   rw [hL] at HLA HOK
   rw [hD] at HDA HOK
   obtain ⟨cn, hcn⟩ : ∃ cn, c.toNat = cn := ⟨_, rfl⟩
   have HCN := hid hcn
   rw [hcn] at HOK
   clear hlt hc hL hD hcn
   go_wp2_with (first
    | ((with_reducible refine K.atO (.index 9 _ _) ?_); refine wpL_valZ (by rfl) (.int .u8 (c.toNat : Int)) (exec_idxB _ _ rfl s HS.out i c HC.out _ rfl rfl rfl _) ?_)
    | fail)
   refine (HLA.out _).mono ?_
   rintro e w1 ⟨rfl, rfl⟩
   go_wp2_with (first
    | ((with_reducible refine K.atO (.index 9 _ _) ?_); refine wpL_valZ (by rfl) (.int .u8 (c.toNat : Int)) (exec_idxB _ _ rfl s HS.out i c HC.out _ rfl rfl rfl _) ?_)
    | fail)
   refine (HDA.out _).mono ?_
   rintro e w1 ⟨rfl, rfl⟩
   have hidx : ∀ w, (Instr.index 9 (.string S) (.int .i64 (i : Int))).run Tryz.prog w = .ok (.int .u8 (cn : Int)) w := fun w => by rw [← HS.out, ← HCN.out]; exact index_str s i c HC.out w
   have hcase : (i = 0 ∨ i ≠ 0) ∧ (cn = 45 ∨ cn ≠ 45) := ⟨by omega, by omega⟩
   cases L with
   | true =>
    go_wp2_with fail
    refine ⟨⟨i + 1, by go_num, HLT.out, trivial, hid (HGOOD.out (by rw [HOK.out]; rfl))⟩, ?_⟩
    have := HLT.out
    simp [intOf]; omega
   | false =>
    by_cases hi00 : i = 0
    ·subst hi00
     obtain rfl := HBAD.out (by rw [HOK.out]; rfl)
     go_wp2_with fail
     go_ret
     exact ⟨rfl, rfl⟩
    ·have hi1 : ¬ (i : Int) = 0 := by omega
     have hb : (i == 0) = false := by simp [hi00]
     cases D with
     | true =>
      go_wp2_with fail
      refine ⟨⟨i + 1, by go_num, HLT.out, trivial, hid (HGOOD.out (by rw [HOK.out, hb]; rfl))⟩, ?_⟩
      have := HLT.out
      simp [intOf]; omega
     | false =>
      by_cases h45 : cn = 45
      ·subst h45
       go_wp2_with fail
       refine ⟨⟨i + 1, by go_num, HLT.out, trivial, hid (HGOOD.out (by rw [HOK.out, hb]; rfl))⟩, ?_⟩
       have := HLT.out
       simp [intOf]; omega
      ·have h45i : ((cn : Int) != 45) = true := by simp; omega
       obtain rfl := HBAD.out (by rw [HOK.out, hb, decide_eq_false h45]; rfl)
       go_wp2_with fail
       go_ret
       exact ⟨rfl, rfl⟩
  ·obtain rfl : i = n := by omega
   have hR : R = (decide (1 ≤ i) && decide (i ≤ 20)) := by
    rw [← HR.out, Bool.eq_iff_iff, typ_at, HN.out]
    simp only [Bool.and_eq_true, decide_eq_true_eq]
    constructor
    ·rintro ⟨h1, h2, -⟩; exact ⟨h1, h2⟩
    ·rintro ⟨h1, h2⟩
     exact ⟨h1, h2, fun j c hj => HA.out j c (by have := (List.getElem?_eq_some_iff.1 hj).1; rw [HN.out] at this; exact this) hj⟩
   by_cases h1 : 1 ≤ i
   ·have h1i : (1 : Int) ≤ i := by omega
    by_cases h2 : i ≤ 20
    ·have h2i : (i : Int) ≤ 20 := by omega
     rw [decide_eq_true h1, decide_eq_true h2] at hR
     subst hR
     clear hlt
     go_wp2_with fail
     go_ret
     exact ⟨rfl, rfl⟩
    ·have h2i : ¬ (i : Int) ≤ 20 := by omega
     rw [decide_eq_true h1, decide_eq_false h2] at hR
     subst hR
     clear hlt
     go_wp2_with fail
     go_ret
     exact ⟨rfl, rfl⟩
   ·have h1i : ¬ (1 : Int) ≤ i := by omega
    rw [decide_eq_false h1] at hR
    subst hR
    clear hlt
    go_wp2_with fail
    go_ret
    exact ⟨rfl, rfl⟩
theorem lo_n (c : UInt8) : lo c = if 65 ≤ c.toNat ∧ c.toNat ≤ 90 then c + 32 else c := by
 have := u8_all (fun c => lo c == if 65 ≤ c.toNat ∧ c.toNat ≤ 90 then c + 32 else c) (by decide +kernel) c
 simpa using this
set_option maxHeartbeats 8000000 in
theorem small_any (s : B) (hs : s.length ≤ 1048576) (w : World) : Calls Tryz.prog 58 #[.string (sb s)] w fun e w' => e = .returned (.string (sb (low s))) ∧ Fr No w w' := by
 obtain ⟨S, hS⟩ : ∃ S, sb s = S := ⟨_, rfl⟩
 obtain ⟨n, hn⟩ : ∃ n, s.length = n := ⟨_, rfl⟩
 have hsz : (S.size : Int) = n := by rw [← hS, sb_size, hn]
 have hni : (n : Int) ≤ 1048576 := by omega
 have HS := hid hS; have HN := hid hn
 rw [hS]
 clear hS hn hs
 go_enter Tryz.func58, Tryz.ntmps58
 go_wp2_with fail
 go_loopw [3, 4] (fun dv iv wr => ∃ (i : Nat), iv = .int .i64 i ∧ i ≤ n ∧ Hid (OwR 5 1 w wr dv i (u8s ((low s).take i)))) (fun _ iv _ => n - (intOf iv).toNat)
 case atStart => exact ⟨0, rfl, Nat.zero_le _, hid (owR_nil (Fr.refl _ _))⟩
 case round =>
  obtain ⟨i, rfl, hi, HO⟩ := hrel
  obtain ⟨va, vc, rfl⟩ := HO.out.1
  by_cases hlt : i < n
  ·obtain ⟨c, hc⟩ : ∃ c, s[i]? = some c := ⟨_, List.getElem?_eq_getElem (by rw [HN.out]; exact hlt)⟩
   have hlti : (i : Int) < n := by omega
   have hi0 : (0 : Int) ≤ i := by omega
   have HC := hid hc
   have HLT := hid hlt
   have HNX : Hid (u8s ((low s).take (i + 1)) = u8s ((low s).take i) ++ [.int .u8 ((lo c).toNat : Int)]) := hid (by
    have hl : (low s)[i]? = some (lo c) := by simp [low, hc]
    rw [List.take_add_one, hl]
    simp [u8s])
   by_cases hup : 65 ≤ c.toNat ∧ c.toNat ≤ 90
   ·have h1 : (65 : Int) ≤ (c.toNat : Int) := by omega
    have h2 : (c.toNat : Int) ≤ 90 := by omega
    have hlo : ((lo c).toNat : Int) = (c.toNat : Int) + 32 := by
     rw [lo_n, if_pos hup, UInt8.toNat_add]
     have : (32 : UInt8).toNat = 32 := rfl
     rw [this]
     omega
    rw [hlo] at HNX
    clear hup hlo hc hlt
    go_wp2_with (first
     | ((with_reducible refine K.atO (.index 9 _ _) ?_); refine wpL_valZ (by rfl) (.int .u8 (c.toNat : Int)) (exec_idxB _ _ rfl s HS.out i c HC.out _ rfl rfl rfl _) ?_)
     | ((with_reducible refine K.atO (.buildSlice 150 _ _) ?_); refine wpL_app1 rfl rfl _ _ _ 150 5 rfl rfl Tryz.underlying150 infoU rfl (by decide) (by decide) HO.out (.int .u8 ((c.toNat : Int) + 32)) [.int .u8 ((c.toNat : Int) + 32)] rfl rfl rfl (by simp [Value.oneCell']) (fun _ => rfl) (fun _ => rfl) (by omega) (by omega) ?_; intro q a4 c4 w4 HO4 HF4)
     | fail)
    refine ⟨⟨i + 1, by go_num, HLT.out, hid (by rw [HNX.out]; exact HO4.out)⟩, ?_⟩
    have := HLT.out
    simp [intOf]; omega
   ·have hlo : lo c = c := by rw [lo_n, if_neg hup]
    rw [hlo] at HNX
    have hcase : c.toNat < 65 ∨ (65 ≤ c.toNat ∧ 90 < c.toNat) := by omega
    clear hup hlo hc hlt
    rcases hcase with h | ⟨h, h'⟩
    ·have h1 : ¬ (65 : Int) ≤ (c.toNat : Int) := by omega
     clear h
     go_wp2_with (first
      | ((with_reducible refine K.atO (.index 9 _ _) ?_); refine wpL_valZ (by rfl) (.int .u8 (c.toNat : Int)) (exec_idxB _ _ rfl s HS.out i c HC.out _ rfl rfl rfl _) ?_)
      | ((with_reducible refine K.atO (.buildSlice 150 _ _) ?_); refine wpL_app1 rfl rfl _ _ _ 150 5 rfl rfl Tryz.underlying150 infoU rfl (by decide) (by decide) HO.out (.int .u8 (c.toNat : Int)) [.int .u8 (c.toNat : Int)] rfl rfl rfl (by simp [Value.oneCell']) (fun _ => rfl) (fun _ => rfl) (by omega) (by omega) ?_; intro q a4 c4 w4 HO4 HF4)
      | fail)
     refine ⟨⟨i + 1, by go_num, HLT.out, hid (by rw [HNX.out]; exact HO4.out)⟩, ?_⟩
     have := HLT.out
     simp [intOf]; omega
    ·have h1 : (65 : Int) ≤ (c.toNat : Int) := by omega
     have h2 : ¬ (c.toNat : Int) ≤ 90 := by omega
     clear h h'
     go_wp2_with (first
      | ((with_reducible refine K.atO (.index 9 _ _) ?_); refine wpL_valZ (by rfl) (.int .u8 (c.toNat : Int)) (exec_idxB _ _ rfl s HS.out i c HC.out _ rfl rfl rfl _) ?_)
      | ((with_reducible refine K.atO (.buildSlice 150 _ _) ?_); refine wpL_app1 rfl rfl _ _ _ 150 5 rfl rfl Tryz.underlying150 infoU rfl (by decide) (by decide) HO.out (.int .u8 (c.toNat : Int)) [.int .u8 (c.toNat : Int)] rfl rfl rfl (by simp [Value.oneCell']) (fun _ => rfl) (fun _ => rfl) (by omega) (by omega) ?_; intro q a4 c4 w4 HO4 HF4)
      | fail)
     refine ⟨⟨i + 1, by go_num, HLT.out, hid (by rw [HNX.out]; exact HO4.out)⟩, ?_⟩
     have := HLT.out
     simp [intOf]; omega
  ·obtain rfl : i = n := by omega
   have hall : (low s).take i = low s := List.take_of_length_le (by rw [low_length, HN.out]; exact Nat.le_refl _)
   have HO2 : Hid (OwR 5 1 w wr (.slice va i vc) (low s).length (u8s (low s))) := hid (by rw [low_length, HN.out]; have h := HO.out; rw [hall] at h; exact h)
   have HDEN := hid (owR_bytes HO2.out)
   clear hall hlt
   go_wp2_with (first
    | ((with_reducible refine K.atO (.convert _ 9 _) ?_); refine wpL_stringOf rfl _ _ _ _ rfl _ _ (low s) rfl HDEN.out Tryz.underlying150 Tryz.underlying5 Tryz.underlying9 ?_)
    | fail)
   go_ret
   exact ⟨rfl, HO.out.fr⟩
end Go.Proofs.YtgbiicipkbpmeaaGreatDoor.DN
namespace Go.Proofs.YtgbiicipkbpmeaaGreatDoor.SC
set_option maxRecDepth 100000
open Go.RowKit K BE DN
theorem Sx.bb {X : Nat → Prop} {w w' : World} {b : Nat} {s : Sch} (h : Sx w' X b s) (hG : Gs w) (hf : Fr (fun k => k = b) w w') (hx : GX X) : Gs w' := hG.bb hf hx h.nx
set_option maxHeartbeats 16000000 in
theorem check_any {S : Nat → Prop} (X : Nat → Prop) (b : Nat) (s : Sch) (v : Value) (en : Ent) (w : World) (h : Sx w X b s) (hX : ∀ k, X k → k < w.heap.size) (hx : GX X) (hG : Gs w) (he : EnIn S w v en) (hS : ∀ i, S i → i ≠ b) :
  Calls Tryz.prog 7 #[.pointer (some ⟨b, 0, none⟩), v] w fun e w' => e = .returned (.int .i64 (check s en)) ∧ Sx w' X b s ∧ Fr (fun k => k = b) w w' := by
 have HA := hid (checkAttrs_any X b s v en w h hX hx hG he hS)
 have HXB := hid hX; have HGX := hid hx; have HG := hid hG; have HE := hid he; have HS := hid hS
 have HBL := hid h.lt
 obtain ⟨R, hR⟩ : ∃ R, check s en = R := ⟨_, rfl⟩
 rw [hR]
 obtain ⟨pr, hpr⟩ : ∃ g, (chkAts s none_ en).1 = g := ⟨_, rfl⟩
 obtain ⟨E1, hE1⟩ : ∃ g, (chkAts s none_ en).2 = g := ⟨_, rfl⟩
 obtain ⟨f, hf⟩ : ∃ g, (classesOf s en).1 = g := ⟨_, rfl⟩
 obtain ⟨al, hal⟩ : ∃ g, (classesOf s en).2 = g := ⟨_, rfl⟩
 have HFA := hid (show (classesOf s en).1 = f ∧ (classesOf s en).2 = al from ⟨hf, hal⟩)
 have HR : Hid ((if E1 = 0 then (if (al && chain s f) = true then chkTys s pr f else 133) else E1) = R) := hid (by
  unfold check at hR
  rw [hpr, hE1, hf, hal] at hR
  exact hR)
 rw [hpr, hE1] at HA
 obtain ⟨a, cp, rfl, -, -⟩ := he.form
 obtain ⟨n, hn⟩ : ∃ n, en.length = n := ⟨_, rfl⟩
 rw [hn] at HA HE ⊢
 clear h hX hx hG he hS hR hpr hE1 hf hal hn
 go_enter Tryz.func7, Tryz.ntmps7
 go_wp2_with fail
 refine HA.out.mono ?_
 rintro e w1 ⟨rfl, hs1, f1⟩
 have HS1 := hid hs1; have HF1 := hid f1
 have HG1 := hid (hs1.bb HG.out f1 HGX.out)
 have HXB1 := hid (fun k hk => Nat.lt_of_lt_of_le (HXB.out k hk) f1.size)
 have HE1 := hid (HE.out.fr f1 (fun i hi _ e => HS.out i hi e))
 clear hs1 f1 HA
 by_cases h0 : E1 = 0
 case neg =>
  obtain rfl : R = E1 := by have h := HR.out; rw [if_neg h0] at h; exact h.symm
  have h0b : (R != 0) = true := by rw [bne_iff_ne]; exact h0
  clear h0
  go_wp2_with (first
   | ((with_reducible refine K.atO (.alloc 73) ?_); refine wpL_alloc rfl _ rfl _ zeroTs (bb none_ 40) rfl ?_; intro w2 HB2 HF2 HS2)
   | ((with_reducible refine K.atO (.store 73 _ _) ?_); refine wpL_store rfl _ _ _ rfl w1.heap.size 0 (bb pr 40) rfl rfl 73 _ HB2.out (by simp) (by rw [bb_length]; exact infoTs) (bb_one _ _) ?_; intro w3 HB3 HF3 HS3)
   | fail)
  go_ret
  have hf3 : Fr No w1 w3 := HF2.out.trans HF3.out (fun k e => .inr (by have e : k = w1.heap.size := e; omega))
  exact ⟨rfl, HS1.out.no hf3, HF1.out.trans' hf3.no⟩
 subst h0
 have HR1 : Hid ((if (al && chain s f) = true then chkTys s pr f else 133) = R) := hid (by have h := HR.out; rw [if_pos rfl] at h; exact h)
 go_wp2_with (first
  | ((with_reducible refine K.atO (.alloc 73) ?_); refine wpL_alloc rfl _ rfl _ zeroTs (bb none_ 40) rfl ?_; intro w2 HB2 HF2 HS2)
  | ((with_reducible refine K.atO (.store 73 _ _) ?_); refine wpL_store rfl _ _ _ rfl w1.heap.size 0 (bb pr 40) rfl rfl 73 _ HB2.out (by simp) (by rw [bb_length]; exact infoTs) (bb_one _ _) ?_; intro w3 HB3 HF3 HS3; rw [bb_spl] at HB3; refine Hid.out ?_)
  | fail)
 have HF3' : Hid (Fr No w1 w3) := hid (HF2.out.trans HF3.out (fun k e => .inr (by have e : k = w1.heap.size := e; omega)))
 obtain ⟨pb, hpb⟩ : ∃ b, w1.heap.size = b := ⟨_, rfl⟩
 have HPB := hid (show ¬ pb = b ∧ pb < w3.heap.size ∧ pb = w1.heap.size from ⟨by have := HS1.out.lt; omega, by have := HS2.out; have := HS3.out; omega, hpb.symm⟩)
 rw [hpb] at HB3 ⊢
 clear HB2 HF2 HS2 HF3 HS3 hpb
 refine hid ?_
 go_wp2_with fail
 refine (classesOf_any X b s _ en w3 (HS1.out.no HF3'.out) (fun k hk => Nat.lt_of_lt_of_le (HXB1.out k hk) HF3'.out.size) HGX.out (HG1.out.no HF3'.out) (HE1.out.fr HF3'.out (fun _ _ _ e => e)) HS.out).mono ?_
 rintro e w4 ⟨rfl, hs4, f4⟩
 rw [HFA.out.1, HFA.out.2]
 have HS4 := hid hs4
 have HB4 := hid (HB3.out.fr f4 HPB.out.1)
 have HFR4 : Hid (Fr (fun k => k = b) w w4) := hid ((HF1.out.trans' HF3'.out.no).trans' f4)
 have HXB4 := hid (fun k hk => Nat.lt_of_lt_of_le (HXB.out k hk) HFR4.out.size)
 have HPB4 : Hid (pb < w4.heap.size) := hid (Nat.lt_of_lt_of_le HPB.out.2.1 f4.size)
 clear hs4 f4 HB3
 go_wp2_with (first
  | ((with_reducible refine K.atO (.alloc 77) ?_); refine wpL_alloc rfl _ rfl _ zeroCs (bb none_ 20) rfl ?_; intro w5 HB5 HF5 HS5)
  | ((with_reducible refine K.atO (.store 77 _ _) ?_); refine wpL_store rfl _ _ _ rfl w4.heap.size 0 (bb f 20) rfl rfl 77 _ HB5.out (by simp) (by rw [bb_length]; exact infoCs2) (bb_one _ _) ?_; intro w6 HB6 HF6 HS6; rw [bb_spl] at HB6; refine Hid.out ?_)
  | fail)
 have HF6' : Hid (Fr No w4 w6) := hid (HF5.out.trans HF6.out (fun k e => .inr (by have e : k = w4.heap.size := e; omega)))
 obtain ⟨cb, hcb⟩ : ∃ b, w4.heap.size = b := ⟨_, rfl⟩
 have HCB : Hid (¬ cb = b) := hid (by have := HS4.out.lt; omega)
 rw [hcb] at HB6 ⊢
 have HB46 := hid (HB4.out.fr HF6'.out id)
 have HRc : Hid (w6.rangeAt cb 0 (bb f 20)) := hid (HB6.out.range 0 _ (by rw [List.drop_zero, List.take_length]))
 clear HB5 HF5 HS5 HF6 HS6 hcb
 refine hid ?_
 cases al with
 | false =>
  obtain rfl : R = 133 := by have h := HR1.out; simp at h; exact h.symm
  go_wp2_with fail
  go_ret
  exact ⟨rfl, HS4.out.no HF6'.out, HFR4.out.trans' HF6'.out.no⟩
 | true =>
  go_wp2_with (first
   | ((with_reducible refine K.atO (.load 77 _) ?_); refine wpL_valZ rfl (.agg (bb f 20).toArray) (exec_load _ _ rfl cb 0 rfl (bb f 20) _ rfl rfl (by rw [bb_length]; exact infoCs2) w6 HRc.out) ?_)
   | fail)
  refine (isOneChain_any X b s f w6 (HS4.out.no HF6'.out) (fun k hk => Nat.lt_of_lt_of_le (HXB4.out k hk) HF6'.out.size)).mono ?_
  rintro e w7 ⟨rfl, hs7, f7⟩
  have HS7 := hid hs7
  have HFR7 : Hid (Fr (fun k => k = b) w w7) := hid ((HFR4.out.trans' HF6'.out.no).trans' f7)
  have HRp7 : Hid (w7.rangeAt pb 0 (bb pr 40)) := hid ((HB46.out.fr f7 HPB.out.1).range 0 _ (by rw [List.drop_zero, List.take_length]))
  have HRc7 : Hid (w7.rangeAt cb 0 (bb f 20)) := hid ((HB6.out.fr f7 HCB.out).range 0 _ (by rw [List.drop_zero, List.take_length]))
  have HXB7 := hid (fun k hk => Nat.lt_of_lt_of_le (HXB.out k hk) HFR7.out.size)
  clear hs7 f7
  obtain ⟨C, hC⟩ : ∃ C, chain s f = C := ⟨_, rfl⟩
  have HC := hid hC
  rw [hC]
  clear hC
  cases C with
  | false =>
   obtain rfl : R = 133 := by have h := HR1.out; rw [HC.out] at h; simp at h; exact h.symm
   go_wp2_with fail
   go_ret
   exact ⟨rfl, HS7.out, HFR7.out⟩
  | true =>
   have HR2 : Hid (chkTys s pr f = R) := hid (by have h := HR1.out; rw [HC.out, Bool.true_and, if_pos rfl] at h; exact h)
   go_wp2_with (first
    | ((with_reducible refine K.atO (.load 73 _) ?_); refine wpL_load rfl _ _ rfl pb 0 rfl (bb pr 40) _ HRp7.out rfl rfl (by rw [bb_length]; exact infoTs) ?_)
    | ((with_reducible refine K.atO (.load 77 _) ?_); refine wpL_load rfl _ _ rfl cb 0 rfl (bb f 20) _ HRc7.out rfl rfl (by rw [bb_length]; exact infoCs2) ?_)
    | fail)
   refine (checkTypes_any X b s pr f w7 HS7.out HXB7.out).mono ?_
   rintro e w8 ⟨rfl, hs8, f8⟩
   have HS8 := hid hs8; have HFR8 := hid (HFR7.out.trans' f8)
   rw [HR2.out]
   clear hs8 f8
   go_wp2_with fail
   go_ret
   exact ⟨rfl, HS8.out, HFR8.out⟩
set_option maxHeartbeats 8000000 in
theorem isA_any {S : Nat → Prop} (X : Nat → Prop) (b : Nat) (s : Sch) (v : Value) (en : Ent) (c : B) (w : World) (h : Sx w X b s) (hX : ∀ k, X k → k < w.heap.size) (hx : GX X) (hG : Gs w) (he : EnIn S w v en) (hS : ∀ i, S i → i ≠ b) (hz : Sz c) :
  Calls Tryz.prog 8 #[.pointer (some ⟨b, 0, none⟩), v, .string (sb c)] w fun e w' => e = .returned (.bool (isA s en c)) ∧ Sx w' X b s ∧ Fr (fun k => k = b) w w' := by
 have HA := hid (classAt_any X b s c w h hX hz)
 have HXB := hid hX; have HGX := hid hx; have HG := hid hG; have HE := hid he; have HS := hid hS
 have HOK := hid h.ok
 obtain ⟨R, hR⟩ : ∃ R, isA s en c = R := ⟨_, rfl⟩
 rw [hR]
 have HR : Hid ((match s.clAt c with | none => false | some k => (classesOf s en).1 k) = R) := hid hR
 obtain ⟨a, cp, rfl, -, -⟩ := he.form
 obtain ⟨n, hn⟩ : ∃ n, en.length = n := ⟨_, rfl⟩
 rw [hn] at HE ⊢
 clear h hX hx hG he hS hR hn hz
 go_enter Tryz.func8, Tryz.ntmps8
 go_wp2_with fail
 refine HA.out.mono ?_
 rintro e w1 ⟨rfl, hs1, f1⟩
 have HS1 := hid hs1.sx; have HF1 := hid f1
 have HG1 := hid (hs1.bb HG.out f1 HGX.out)
 have HXB1 := hid (fun k hk => Nat.lt_of_lt_of_le (HXB.out k hk) f1.size)
 have HE1 := hid (HE.out.fr f1 (fun i hi _ e => HS.out i hi e))
 clear hs1 f1 HA
 have hat : atR (s.clAt c) = .tuple #[.int .i64 (((s.clAt c).getD 0 : Nat) : Int), .bool (s.clAt c).isSome] := by
  unfold atR
  cases s.clAt c <;> rfl
 rw [hat]
 clear hat
 obtain ⟨k, hk⟩ : ∃ k, (s.clAt c).getD 0 = k := ⟨_, rfl⟩
 obtain ⟨O, hO⟩ : ∃ O, (s.clAt c).isSome = O := ⟨_, rfl⟩
 have HK := hid hk; have HO := hid hO
 rw [hk, hO]
 clear hk hO
 go_wp2_with fail
 refine (classesOf_any X b s _ en w1 HS1.out HXB1.out HGX.out HG1.out HE1.out HS.out).mono ?_
 rintro e w2 ⟨rfl, hs2, f2⟩
 have HS2 := hid hs2; have HFR2 := hid (HF1.out.trans' f2)
 obtain ⟨f, hf⟩ : ∃ g, (classesOf s en).1 = g := ⟨_, rfl⟩
 have HFF := hid hf
 rw [hf]
 clear hs2 f2 hf
 go_wp2_with (first
  | ((with_reducible refine K.atO (.alloc 77) ?_); refine wpL_alloc rfl _ rfl _ zeroCs (bb none_ 20) rfl ?_; intro w5 HB5 HF5 HS5)
  | ((with_reducible refine K.atO (.store 77 _ _) ?_); refine wpL_store rfl _ _ _ rfl w2.heap.size 0 (bb f 20) rfl rfl 77 _ HB5.out (by simp) (by rw [bb_length]; exact infoCs2) (bb_one _ _) ?_; intro w6 HB6 HF6 HS6; rw [bb_spl] at HB6; refine Hid.out ?_)
  | fail)
 have HF6' : Hid (Fr No w2 w6) := hid (HF5.out.trans HF6.out (fun k e => .inr (by have e : k = w2.heap.size := e; omega)))
 obtain ⟨cb, hcb⟩ : ∃ b, w2.heap.size = b := ⟨_, rfl⟩
 rw [hcb] at HB6 ⊢
 clear HB5 HF5 HS5 HF6 HS6 hcb
 refine hid ?_
 cases O with
 | false =>
  obtain rfl : R = false := by
   have h := HR.out
   have h2 := HO.out
   rw [Option.isSome_eq_false_iff, Option.isNone_iff_eq_none] at h2
   rw [h2] at h
   exact h.symm
  go_wp2_with fail
  go_ret
  exact ⟨rfl, HS2.out.no HF6'.out, HFR2.out.trans' HF6'.out.no⟩
 | true =>
  obtain ⟨j, hj⟩ := Option.isSome_iff_exists.1 HO.out
  obtain rfl : k = j := by have := HK.out; rw [hj] at this; exact this.symm
  have hk20 : k < 20 := (clAt_lt HOK.out hj).2
  have hki : (k : Int) < 20 := by omega
  have hk0 : (0 : Int) ≤ k := by omega
  have HR2 : Hid (f k = R) := hid (by have h := HR.out; rw [hj, HFF.out] at h; exact h)
  have ck : w6.cell? ⟨cb, k, none⟩ = some (.bool R) := by rw [HB6.out.cell, bb_get f hk20, HR2.out]
  clear hj hk20
  go_wp2_with fail
  go_ret
  exact ⟨rfl, HS2.out.no HF6'.out, HFR2.out.trans' HF6'.out.no⟩
section
variable {P : Program} {ops : Array Oper} {rest : List Oper} {op : Oper} {a : Act} {w : World} {Q : Exit → Act → World → Prop}
theorem wpL_buildAll (hgd : op.guard = none) (t e : TypeId) (xs : List Operand) (ho : op.op = .buildSlice t xs.length ((xs.zipIdx 0).map fun x => (x.2, x.1)).toArray) (i : TypeInfo) (z : Value) (hu : P.underlying t = some (.slice e)) (hi : P.info? e = some i) (hz : i.zero = some z) (hs0 : 0 < i.size)
  (hs1 : xs.length * i.size ≤ 16777216) (hx0 : 0 < xs.length) (vs : List Value) (hvs : xs.map a.eval = vs) (hv : ∀ v ∈ vs, v.cells.size = i.size) (cs : List Value) (hcs : (vs.flatMap fun v => v.cells.toList) = cs)
  (h : ∀ w', Hid (Blk w' w.heap.size e cs) → Hid (Fr No w w') → Hid (w'.heap.size = w.heap.size + 1) → wpList P ops Q rest (a.put op.dst (.slice (some ⟨w.heap.size, 0, none⟩) xs.length xs.length)) w') : wpList P ops Q (op :: rest) a w := by
 subst hvs hcs
 refine wpL_buildSlice hgd t e xs.length ((xs.zipIdx 0).map fun x => (x.2, x.1)) ho _ ?_ h
 have := run_buildAll (P := P) t e (xs.map a.eval) i z hu hi hz hs0 (by rw [List.length_map]; exact hs1) (by rw [List.length_map]; exact hx0) hv w
 rw [List.length_map] at this
 rw [← this]
 congr 2
 rw [List.zipIdx_map, List.map_map, List.map_map]
 rfl
end
theorem blk_ls {w : World} {g : Nat} (l : List B) (h : Blk w g 9 (strs l)) (hl : l.length ≤ 140737488351232) (hz : ∀ x ∈ l, Sz x) : LsIn (fun i => i = g) w (.slice (some ⟨g, 0, none⟩) l.length l.length) l := by
 refine ⟨_, _, rfl, Nat.le_refl _, hl, ?_⟩
 by_cases h0 : l = []
 ·exact .inl h0
 ·refine .inr ⟨g, 0, l.map fun x => [.string (sb x)], rfl, rfl, h.lt, ?_, by simp, fun c hc => ?_, fun j x c hx hc => ?_⟩
  ·have e : (l.map fun x => [Value.string (sb x)]).flatten = strs l := by
    unfold strs
    clear h hl hz h0
    induction l with
    | nil => rfl
    | cons a r ih => simp only [List.map_cons, List.flatten_cons, ih]; rfl
   rw [e]
   exact h.range 0 _ (by rw [List.drop_zero, List.take_length])
  ·obtain ⟨x, _, rfl⟩ := List.mem_map.1 hc
   rfl
  ·rw [List.getElem?_map, hx] at hc
   obtain rfl : [Value.string (sb x)] = c := by simpa using hc
   exact ⟨rfl, hz x (List.mem_of_getElem? hx)⟩
theorem blk_sl {α : Type} {k : Nat} {p : α → List Value → Prop} {w : World} {g : Nat} {t : TypeId} (xs : List α) (L : List (List Value)) (h : Blk w g t L.flatten) (hL : L.length = xs.length) (hk : ∀ c ∈ L, c.length = k) (hp : ∀ (j : Nat) (x : α) (c : List Value), xs[j]? = some x → L[j]? = some c → p x c) (hl : xs.length ≤ 140737488351232) :
  Sl k p (fun i => i = g) w (.slice (some ⟨g, 0, none⟩) xs.length xs.length) xs :=
 ⟨_, _, rfl, Nat.le_refl _, hl, .inr ⟨g, 0, L, rfl, rfl, h.lt, h.range 0 _ (by rw [List.drop_zero, List.take_length]), hL, hk, hp⟩⟩
def sOC : B := [111, 98, 106, 101, 99, 116, 67, 108, 97, 115, 115]
def sCn : B := [99, 110]
def sAge : B := [97, 103, 101]
def sDc : B := [100, 99]
def sTop : B := [116, 111, 112]
def sPerson : B := [112, 101, 114, 115, 111, 110]
def sDomain : B := [100, 111, 109, 97, 105, 110]
def sAged : B := [97, 103, 101, 100]
def exT : List Ty := [⟨sOC, 1, false, false, false, false⟩, ⟨sCn, 1, false, false, false, false⟩, ⟨sAge, 3, true, false, false, false⟩, ⟨sDc, 1, false, false, false, false⟩]
def exC : List Cl := [⟨sTop, 0, [], [], []⟩, ⟨sPerson, 1, sTop, [sCn], [sAge]⟩, ⟨sDomain, 1, sTop, [sDc], []⟩, ⟨sAged, 2, [], [sAge], []⟩]
def exS : Sch := ⟨exT, exC⟩
theorem ex_ok : okS exS = true := by decide +kernel
theorem ex_n1 : normE exS [67, 78] [32, 65, 32, 32, 98] = ([97, 32, 98], 0) := by decide +kernel
theorem ex_n2 : normE exS sAge [48, 48, 55] = ([], 132) := by decide +kernel
theorem ex_c : cmpE exS sAge [45, 53] [49, 50] = (-1, 0) := by decide +kernel
def aOC : Atr := (sOC, [sPerson])
def aCn : Atr := (sCn, [[65]])
theorem ex_k1 : check exS [aOC, aCn] = 0 := by decide +kernel
theorem ex_k2 : check exS [aOC] = 134 := by decide +kernel
theorem ex_k3 : check exS [aOC, aCn, (sDc, [[120]])] = 135 := by decide +kernel
theorem ex_k4 : check exS [aOC, aCn, (sAge, [[49], [50]])] = 136 := by decide +kernel
theorem ex_k5 : check exS [(sOC, [sTop])] = 133 := by decide +kernel
theorem ex_i1 : isA exS [aOC] [84, 79, 80] = true := by decide +kernel
theorem ex_i2 : isA exS [aOC] sDomain = false := by decide +kernel
end Go.Proofs.YtgbiicipkbpmeaaGreatDoor.SC
