/-
  Folded names, their order, their keys. No program.
-/
import Derived.Test.YthjmkfpdbbfcpaaGreatDoorDnB
import Derived.Lib.Bytealg
set_option linter.unusedVariables false
set_option linter.unusedSimpArgs false
namespace Go.Proofs.YthjmkfpdbbfcpaaGreatDoor.DN
set_option maxRecDepth 100000
open Go.Proofs.YthjmkfpdbbfcpaaGreatDoor.BE

/-! ### The order of texts -/
def ltB : B → B → Bool
  | [], [] => false
  | [], _ :: _ => true
  | _ :: _, [] => false
  | a :: r, b :: s => decide (a < b) || (a == b && ltB r s)
theorem cmp_lt : ∀ a b : B, decide (Lib.compareBytes a b < 0) = ltB a b
  | [], [] => rfl
  | [], _ :: _ => rfl
  | _ :: _, [] => rfl
  | a :: r, b :: s => by
    have ih := cmp_lt r s
    unfold Lib.compareBytes ltB
    by_cases h : a < b
    · simp [h]
    · by_cases h2 : b < a
      · have hne : (a == b) = false := by
          rw [beq_eq_false_iff_ne]
          intro e; subst e
          exact h h2
        simp [h, h2, hne]
      · have he : a = b := by
          rw [UInt8.lt_iff_toNat_lt] at h h2
          exact UInt8.toNat_inj.1 (by omega)
        subst he
        simp [ih]
theorem ltB_irr : ∀ a : B, ltB a a = false
  | [] => rfl
  | a :: r => by simp [ltB, ltB_irr r]
theorem ltB_trans : ∀ a b c : B, ltB a b = true → ltB b c = true → ltB a c = true
  | [], [], _, h, _ => by cases h
  | [], _ :: _, [], _, h => by cases h
  | [], _ :: _, _ :: _, _, _ => rfl
  | _ :: _, [], _, h, _ => by cases h
  | _ :: _, _ :: _, [], _, h => by cases h
  | a :: r, b :: s, c :: t, h, k => by
    simp only [ltB, Bool.or_eq_true, Bool.and_eq_true, decide_eq_true_eq, beq_iff_eq] at h k ⊢
    rcases h with h | ⟨rfl, h⟩ <;> rcases k with k | ⟨rfl, k⟩
    · exact .inl (UInt8.lt_trans h k)
    · exact .inl h
    · exact .inl k
    · exact .inr ⟨rfl, ltB_trans r s t h k⟩
theorem ltB_tot : ∀ a b : B, ltB a b = false → ltB b a = false → a = b
  | [], [], _, _ => rfl
  | [], _ :: _, h, _ => by cases h
  | _ :: _, [], _, h => by cases h
  | a :: r, b :: s, h, k => by
    simp only [ltB, Bool.or_eq_false_iff, Bool.and_eq_false_imp, decide_eq_false_iff_not, beq_iff_eq] at h k
    have he : a = b := by
      have h1 := h.1; have k1 := k.1
      rw [UInt8.lt_iff_toNat_lt] at h1 k1
      exact UInt8.toNat_inj.1 (by omega)
    subst he
    rw [ltB_tot r s (h.2 rfl) (k.2 rfl)]
theorem ltB_asymm {a b : B} (h : ltB a b = true) : ltB b a = false := by
  cases k : ltB b a with
  | false => rfl
  | true => have := ltB_trans a b a h k; rw [ltB_irr] at this; cases this
theorem le_trans {a b c : B} (h : ltB b a = false) (k : ltB c b = false) : ltB c a = false := by
  cases j : ltB c a with
  | false => rfl
  | true =>
    cases m : ltB a b with
    | true => rw [ltB_trans c a b j m] at k; cases k
    | false => rw [ltB_tot a b m h] at j; rw [j] at k; cases k
/-! ### Folded values -/
def words : B → B → List B
  | cur, [] => if cur.isEmpty then [] else [cur]
  | cur, c :: r => if c = 32 then (if cur.isEmpty then words [] r else cur :: words [] r) else words (cur ++ [c]) r
def fold (v : B) : B := joinB [32] (words [] (low v))
theorem lo_lo (c : UInt8) : lo (lo c) = lo c := by
  have := u8_all (fun c => lo (lo c) == lo c) (by decide +kernel) c
  simpa using this
theorem low_low (s : B) : low (low s) = low s := by simp [low, lo_lo]
theorem low_length (s : B) : (low s).length = s.length := by simp [low]
theorem words_in : ∀ (s cur : B), (∀ c ∈ cur, c ≠ 32 ∧ lo c = c) → (∀ c ∈ s, lo c = c) → ∀ x ∈ words cur s, x ≠ [] ∧ ∀ c ∈ x, c ≠ 32 ∧ lo c = c
  | [], cur, h, _, x, hx => by
    unfold words at hx
    cases cur with
    | nil => cases hx
    | cons a r =>
      obtain rfl : x = a :: r := by simpa using hx
      exact ⟨by simp, h⟩
  | c :: r, cur, h, hs, x, hx => by
    unfold words at hx
    split at hx
    · cases cur with
      | nil => exact words_in r [] (fun _ hc => by cases hc) (fun d hd => hs d (by simp [hd])) x hx
      | cons a q =>
        rcases List.mem_cons.1 hx with rfl | hx
        · exact ⟨by simp, h⟩
        · exact words_in r [] (fun _ hc => by cases hc) (fun d hd => hs d (by simp [hd])) x hx
    · rename_i hc
      exact words_in r (cur ++ [c]) (fun d hd => by
        rcases List.mem_append.1 hd with hd | hd
        · exact h d hd
        · obtain rfl := List.mem_singleton.1 hd
          exact ⟨hc, hs _ (by simp)⟩) (fun d hd => hs d (by simp [hd])) x hx
theorem words_run : ∀ (x cur r : B), (∀ c ∈ x, c ≠ 32) → words cur (x ++ r) = words (cur ++ x) r
  | [], cur, r, _ => by simp
  | c :: x, cur, r, h => by
    have hc : c ≠ 32 := h c (by simp)
    rw [List.cons_append]
    conv => lhs; unfold words
    rw [if_neg hc, words_run x _ r (fun d hd => h d (by simp [hd]))]
    simp
theorem words_join : ∀ (L : List B), (∀ x ∈ L, x ≠ [] ∧ ∀ c ∈ x, c ≠ 32) → words [] (joinB [32] L) = L
  | [], _ => rfl
  | [a], h => by
    have ha := h a (by simp)
    have h1 := words_run a [] [] ha.2
    rw [List.append_nil, List.nil_append] at h1
    rw [show joinB [32] [a] = a from rfl, h1]
    cases a with
    | nil => exact absurd rfl ha.1
    | cons _ _ => rfl
  | a :: b :: r, h => by
    have ha := h a (by simp)
    have e : joinB [32] (a :: b :: r) = a ++ 32 :: joinB [32] (b :: r) := by simp [joinB]
    have h1 := words_run a [] (32 :: joinB [32] (b :: r)) ha.2
    rw [List.nil_append] at h1
    rw [e, h1]
    unfold words
    rw [if_pos rfl, words_join (b :: r) (fun x hx => h x (by simp [hx]))]
    cases a with
    | nil => exact absurd rfl ha.1
    | cons _ _ => rfl
theorem low_self {s : B} (h : ∀ c ∈ s, lo c = c) : low s = s := by
  unfold low
  conv => rhs; rw [← List.map_id s]
  exact List.map_congr_left (fun c hc => by simp [h c hc])
theorem join_all {p : UInt8 → Prop} {sep : B} : ∀ (L : List B), (∀ x ∈ L, ∀ c ∈ x, p c) → (∀ c ∈ sep, p c) → ∀ c ∈ joinB sep L, p c
  | [], _, _, c, hc => by cases hc
  | [a], h, _, c, hc => h a (by simp) c hc
  | a :: b :: r, h, hs, c, hc => by
    simp only [joinB, List.mem_append] at hc
    rcases hc with (hc | hc) | hc
    · exact h a (by simp) c hc
    · exact hs c hc
    · exact join_all (b :: r) (fun x hx => h x (by simp [hx])) hs c hc
theorem low_all (v : B) : ∀ c ∈ low v, lo c = c := by
  intro c hc
  obtain ⟨d, _, rfl⟩ := List.mem_map.1 hc
  exact lo_lo d
theorem words_low (v : B) : ∀ x ∈ words [] (low v), x ≠ [] ∧ ∀ c ∈ x, c ≠ 32 ∧ lo c = c := words_in (low v) [] (fun _ h => by cases h) (low_all v)
theorem fold_low (v : B) : low (fold v) = fold v := low_self (join_all _ (fun x hx c hc => ((words_low v x hx).2 c hc).2) (fun c hc => by obtain rfl := List.mem_singleton.1 hc; decide))
theorem fold_fold (v : B) : fold (fold v) = fold v := by
  show joinB [32] (words [] (low (fold v))) = fold v
  rw [fold_low]
  unfold fold
  rw [words_join _ (fun x hx => ⟨(words_low v x hx).1, fun c hc => ((words_low v x hx).2 c hc).1⟩)]
theorem words_len : ∀ (s cur : B), (joinB [32] (words cur s)).length ≤ cur.length + s.length
  | [], cur => by
    unfold words
    cases cur <;> simp [joinB]
  | c :: r, cur => by
    unfold words
    split
    · have h := words_len r []
      cases cur with
      | nil => simp only [List.isEmpty_nil, if_true, List.length_nil, List.length_cons] at h ⊢; omega
      | cons a q =>
        simp only [List.isEmpty_cons, Bool.false_eq_true, if_false]
        cases hw : words [] r with
        | nil => simp [joinB]
        | cons b t =>
          rw [hw] at h
          simp only [joinB, List.length_append, List.length_cons, List.length_nil] at h ⊢
          omega
    · have h := words_len r (cur ++ [c])
      simp only [List.length_append, List.length_cons, List.length_nil] at h ⊢
      omega
theorem words_count : ∀ (s cur : B), (words cur s).length ≤ s.length + (if cur.isEmpty then 0 else 1)
  | [], cur => by
    unfold words
    cases cur <;> simp
  | c :: r, cur => by
    unfold words
    have h0 := words_count r []
    have h1 := words_count r (cur ++ [c])
    have h2 : (cur ++ [c]).isEmpty = false := by cases cur <;> rfl
    rw [h2] at h1
    simp only [List.isEmpty_nil, if_true, Bool.false_eq_true, if_false] at h0 h1
    split
    · cases cur with
      | nil => simp; omega
      | cons a q => simp; omega
    · simp only [List.length_cons]
      omega
theorem fold_len (v : B) : (fold v).length ≤ v.length := by
  have := words_len (low v) []
  rw [low_length] at this
  simpa [fold] using this
/-! ### Folded names -/
def insR (a : Av) : Rd → Rd
  | [] => [a]
  | b :: r => if ltB a.1 b.1 then a :: b :: r else b :: insR a r
def srt (r : Rd) : Rd := r.foldl (fun acc a => insR a acc) []
def foldA (a : Av) : Av := (low a.1, fold a.2)
def normR (r : Rd) : Rd := srt (r.map foldA)
def norm (n : Nm) : Nm := n.map normR
def key (n : Nm) : B := ((norm n).reverse.map fun r => stepT r ++ [0]).flatten
def under (n b : Nm) : Bool := decide (b.length ≤ n.length) && decide (norm (n.drop (n.length - b.length)) = norm b)
theorem foldA_foldA (a : Av) : foldA (foldA a) = foldA a := by simp [foldA, low_low, fold_fold]
theorem insR_mem (a x : Av) : ∀ r : Rd, x ∈ insR a r ↔ x = a ∨ x ∈ r
  | [] => by simp [insR]
  | b :: r => by
    unfold insR
    split
    · simp
    · simp only [List.mem_cons, insR_mem a x r]
      constructor <;> rintro (h | h | h) <;> simp [h]
theorem insR_len (a : Av) : ∀ r : Rd, (insR a r).length = r.length + 1
  | [] => rfl
  | b :: r => by
    unfold insR
    split
    · simp
    · simp [insR_len a r]
theorem fold_mem (x : Av) : ∀ (r acc : Rd), x ∈ r.foldl (fun acc a => insR a acc) acc ↔ x ∈ acc ∨ x ∈ r
  | [], acc => by simp
  | a :: r, acc => by
    rw [List.foldl_cons, fold_mem x r, insR_mem]
    simp only [List.mem_cons]
    constructor
    · rintro ((h | h) | h) <;> simp [h]
    · rintro (h | h | h) <;> simp [h]
theorem srt_mem {x : Av} {r : Rd} : x ∈ srt r ↔ x ∈ r := by simp [srt, fold_mem]
theorem foldl_len : ∀ (r acc : Rd), (r.foldl (fun acc a => insR a acc) acc).length = acc.length + r.length
  | [], acc => by simp
  | a :: r, acc => by
    rw [List.foldl_cons, foldl_len r, insR_len, List.length_cons]
    omega
theorem srt_len (r : Rd) : (srt r).length = r.length := by simp [srt, foldl_len]
/-- In an order; like ones may be there. -/
def Sd (r : Rd) : Prop := r.Pairwise fun a b => ltB b.1 a.1 = false
theorem insR_sorted (a : Av) : ∀ {r : Rd}, Sd r → Sd (insR a r)
  | [], _ => by simp [insR, Sd]
  | b :: r, h => by
    obtain ⟨h1, h2⟩ := List.pairwise_cons.1 h
    unfold insR
    split
    · rename_i hlt
      refine List.pairwise_cons.2 ⟨fun x hx => ?_, h⟩
      rcases List.mem_cons.1 hx with rfl | hx
      · exact ltB_asymm hlt
      · exact le_trans (ltB_asymm hlt) (h1 x hx)
    · rename_i hlt
      refine List.pairwise_cons.2 ⟨fun x hx => ?_, insR_sorted a h2⟩
      rcases (insR_mem a x r).1 hx with rfl | hx
      · simpa using hlt
      · exact h1 x hx
theorem foldl_sorted : ∀ (r acc : Rd), Sd acc → Sd (r.foldl (fun acc a => insR a acc) acc)
  | [], _, h => h
  | a :: r, _, h => foldl_sorted r _ (insR_sorted a h)
theorem srt_sorted (r : Rd) : Sd (srt r) := foldl_sorted r [] List.Pairwise.nil
theorem insR_end (a : Av) : ∀ {r : Rd}, (∀ b ∈ r, ltB a.1 b.1 = false) → insR a r = r ++ [a]
  | [], _ => rfl
  | b :: r, h => by
    unfold insR
    rw [if_neg (by simp [h b (by simp)]), insR_end a (fun x hx => h x (by simp [hx]))]
    rfl
theorem foldl_self : ∀ (r acc : Rd), Sd (acc ++ r) → r.foldl (fun acc a => insR a acc) acc = acc ++ r
  | [], _, _ => by simp
  | a :: r, acc, h => by
    have h1 : insR a acc = acc ++ [a] := insR_end a fun b hb => (List.pairwise_append.1 h).2.2 b hb a (by simp)
    rw [List.foldl_cons, h1, foldl_self r _ (by simpa using h)]
    simp
theorem srt_self {r : Rd} (h : Sd r) : srt r = r := by
  have := foldl_self r [] (by simpa using h)
  simpa [srt] using this
theorem normR_normR (r : Rd) : normR (normR r) = normR r := by
  have h : (normR r).map foldA = normR r := by
    conv => rhs; rw [← List.map_id (normR r)]
    refine List.map_congr_left fun a ha => ?_
    obtain ⟨b, _, rfl⟩ := List.mem_map.1 (srt_mem.1 ha)
    simp [foldA_foldA]
  unfold normR at h ⊢
  rw [h]
  exact srt_self (srt_sorted _)
theorem norm_norm (n : Nm) : norm (norm n) = norm n := by simp [norm, normR_normR]
theorem norm_length (n : Nm) : (norm n).length = n.length := by simp [norm]
/-! ### Keys -/
theorem typ_low {t : B} (h : typ t = true) : typ (low t) = true := by
  have hk := fun (b : Bool) (c : UInt8) => u8_all (fun c => okAt b (lo c) == okAt b c) (by cases b <;> decide +kernel) c
  have hk' : ∀ (b : Bool) (c : UInt8), okAt b (lo c) = okAt b c := fun b c => by simpa using hk b c
  unfold typ at h ⊢
  rw [low_length]
  cases t with
  | nil => exact h
  | cons x r =>
    simp only [low, List.map_cons, List.all_map, Bool.and_eq_true, hk'] at h ⊢
    refine ⟨h.1, h.2.1, ?_⟩
    rw [List.all_eq_true] at *
    intro c hc
    exact (hk' false c).trans (h.2.2 c hc)
/-- What a folded step that may be is. -/
theorem norm_step {n : Nm} (h : built n = true) : ∀ r ∈ norm n, r ≠ [] ∧ (∀ a ∈ r, typ a.1 = true) ∧ noEq r := by
  intro r hr
  obtain ⟨q, hq, rfl⟩ := List.mem_map.1 hr
  obtain ⟨h1, h2, h3, h4⟩ := built_step h q hq
  have ht : ∀ a ∈ normR q, typ a.1 = true := by
    intro a ha
    obtain ⟨b, hb, rfl⟩ := List.mem_map.1 (srt_mem.1 ha)
    exact typ_low (h3 b hb)
  refine ⟨fun e => ?_, ht, fun a ha c hc => (typ_noEq (ht a ha) c hc).1⟩
  have := congrArg List.length e
  rw [normR, srt_len, List.length_map] at this
  exact h1 (List.eq_nil_of_length_eq_zero this)
theorem valFrom_zero : ∀ (v : B) (b : Bool), ∀ c ∈ valFrom b v, c ≠ 0
  | [], _, _, h => by cases h
  | x :: r, b, c, h => by
    simp only [valFrom, List.mem_append] at h
    rcases h with h | h
    · have h0 : ∀ (l : Bool), (byT b l x).all (fun c => !(c == 0)) = true := fun l => u8_all (fun x => (byT b l x).all (fun c => !(c == 0))) (by cases b <;> cases l <;> decide +kernel) x
      have := List.all_eq_true.1 (h0 r.isEmpty) c h
      simpa using this
    · exact valFrom_zero r false c h
theorem stepT_zero {r : Rd} (h : ∀ a ∈ r, typ a.1 = true) : ∀ c ∈ stepT r, c ≠ 0 := by
  refine join_all _ ?_ (fun c hc => by obtain rfl := List.mem_singleton.1 hc; decide)
  intro x hx c hc
  obtain ⟨a, ha, rfl⟩ := List.mem_map.1 hx
  simp only [avaT, List.mem_append, List.mem_singleton] at hc
  rcases hc with (hc | rfl) | hc
  · exact (typ_noEq (h a ha) c hc).2
  · decide
  · exact valFrom_zero _ _ c hc
theorem stepT_inj {r s : Rd} (h1 : r ≠ []) (h2 : noEq r) (h3 : s ≠ []) (h4 : noEq s) (h : stepT r = stepT s) : r = s := by
  have e1 := read_print (n := [r]) (fun x hx => by obtain rfl := List.mem_singleton.1 hx; exact ⟨h1, h2⟩)
  have e2 := read_print (n := [s]) (fun x hx => by obtain rfl := List.mem_singleton.1 hx; exact ⟨h3, h4⟩)
  have e3 : printT [r] = printT [s] := h
  rw [e3, e2] at e1
  simp only [Option.some.injEq, List.cons.injEq, and_true] at e1
  exact e1.symm
theorem zero_split : ∀ {a b r s : B}, (∀ c ∈ a, c ≠ 0) → (∀ c ∈ b, c ≠ 0) → a ++ 0 :: r = b ++ 0 :: s → a = b ∧ r = s
  | [], [], r, s, _, _, h => by simpa using h
  | [], x :: b, r, s, _, hb, h => by
    simp only [List.nil_append, List.cons_append, List.cons.injEq] at h
    exact absurd h.1.symm (hb x (by simp))
  | x :: a, [], r, s, ha, _, h => by
    simp only [List.nil_append, List.cons_append, List.cons.injEq] at h
    exact absurd h.1 (ha x (by simp))
  | x :: a, y :: b, r, s, ha, hb, h => by
    simp only [List.cons_append, List.cons.injEq] at h
    obtain ⟨h1, h2⟩ := zero_split (fun c hc => ha c (by simp [hc])) (fun c hc => hb c (by simp [hc])) h.2
    exact ⟨by rw [h.1, h1], h2⟩
def keyL (L : Nm) : B := (L.map fun r => stepT r ++ [0]).flatten
theorem keyL_prefix : ∀ {M L : Nm}, (∀ r ∈ L, r ≠ [] ∧ (∀ a ∈ r, typ a.1 = true) ∧ noEq r) → (∀ r ∈ M, r ≠ [] ∧ (∀ a ∈ r, typ a.1 = true) ∧ noEq r) → (keyL M <+: keyL L ↔ M <+: L)
  | [], L, _, _ => by simp [keyL]
  | r :: M, [], _, _ => by simp [keyL]
  | r :: M, s :: L, hL, hM => by
    obtain ⟨r1, r2, r3⟩ := hM r (by simp)
    obtain ⟨s1, s2, s3⟩ := hL s (by simp)
    have ih := keyL_prefix (M := M) (L := L) (fun x hx => hL x (by simp [hx])) (fun x hx => hM x (by simp [hx]))
    have e : ∀ (q : Rd) (N : Nm), keyL (q :: N) = stepT q ++ 0 :: keyL N := fun q N => by simp [keyL]
    rw [e, e]
    constructor
    · rintro ⟨t, ht⟩
      rw [List.append_assoc, List.cons_append] at ht
      obtain ⟨h1, h2⟩ := zero_split (stepT_zero r2) (stepT_zero s2) ht
      obtain rfl := stepT_inj r1 r3 s1 s3 h1
      exact List.cons_prefix_cons.2 ⟨rfl, ih.1 ⟨t, h2⟩⟩
    · intro h
      obtain ⟨e1, h2⟩ := List.cons_prefix_cons.1 h
      subst e1
      obtain ⟨t, ht⟩ := ih.2 h2
      exact ⟨t, by rw [List.append_assoc, List.cons_append, ht]⟩
theorem key_eq (n : Nm) : key n = keyL (norm n).reverse := rfl
/-- Under is said by keys. -/
theorem under_key {a b : Nm} (ha : built a = true) (hb : built b = true) : under a b = true ↔ key b <+: key a := by
  rw [key_eq, key_eq, keyL_prefix (fun r hr => norm_step ha r (List.mem_reverse.1 hr)) (fun r hr => norm_step hb r (List.mem_reverse.1 hr)), List.reverse_prefix]
  unfold under
  simp only [Bool.and_eq_true, decide_eq_true_eq]
  have e : norm (a.drop (a.length - b.length)) = (norm a).drop (a.length - b.length) := by simp [norm, List.map_drop]
  rw [e]
  constructor
  · rintro ⟨_, h⟩
    rw [← h]
    exact List.drop_suffix _ _
  · intro h
    have h1 := h.length_le
    rw [norm_length, norm_length] at h1
    refine ⟨h1, ?_⟩
    obtain ⟨t, ht⟩ := h
    have hl := congrArg List.length ht
    rw [List.length_append, norm_length, norm_length] at hl
    rw [← ht, show a.length - b.length = t.length by omega, List.drop_left]
theorem same_key {a b : Nm} (ha : built a = true) (hb : built b = true) : norm a = norm b ↔ key a = key b := by
  constructor
  · intro h; rw [key_eq, key_eq, h]
  · intro h
    have h1 := (keyL_prefix (M := (norm b).reverse) (L := (norm a).reverse) (fun r hr => norm_step ha r (List.mem_reverse.1 hr)) (fun r hr => norm_step hb r (List.mem_reverse.1 hr))).1 (by rw [← key_eq, ← key_eq, h]; exact List.prefix_refl _)
    have h2 := (keyL_prefix (M := (norm a).reverse) (L := (norm b).reverse) (fun r hr => norm_step hb r (List.mem_reverse.1 hr)) (fun r hr => norm_step ha r (List.mem_reverse.1 hr))).1 (by rw [← key_eq, ← key_eq, h]; exact List.prefix_refl _)
    have h3 := h2.eq_of_length (by have := h1.length_le; have := h2.length_le; omega)
    have := congrArg List.reverse h3
    simpa using this
end Go.Proofs.YthjmkfpdbbfcpaaGreatDoor.DN
