/-
  Part 3 of the proof: DnB, DnK, DnI, DnU.
-/
import Derived.Test.YtnjemnmhkhkpeaaDoorDo02
import Derived.Lib.Bytealg
import Derived.Laws.Externs
set_option linter.unusedSimpArgs false
set_option linter.unusedVariables false
namespace Go.Proofs.YtnjemnmhkhkpeaaDoor.DN
set_option maxRecDepth 100000
open Go.Proofs.YtnjemnmhkhkpeaaDoor.BE
theorem esc_cons (c : UInt8) (r : B) : esc (c :: r) = if sign c || c == 35 || c == 61 || c == 32 then some (c, r) else
    match r with
    | [] => none
    | d :: r' => match hexv c, hexv d with
      | some x, some y => some (16 * x + y, r')
      | _, _ => none := rfl
/-- A property of all bytes is looked through. -/
theorem u8_all (p : UInt8 → Bool) (h : ∀ n : Fin 256, p (UInt8.ofNat n.val) = true) (c : UInt8) : p c = true := by
  have := h ⟨c.toNat, UInt8.toNat_lt c⟩
  simpa using this
theorem ctl_text (c : UInt8) (h : c < 32 ∨ c = 127) : (sign (dgt (c / 16)) || dgt (c / 16) == 35 || dgt (c / 16) == 61 || dgt (c / 16) == 32) = false ∧ hexv (dgt (c / 16)) = some (c / 16) ∧ hexv (dgt (c % 16)) = some (c % 16) ∧ 16 * (c / 16) + c % 16 = c := by
  have := u8_all (fun c => !(decide (c < 32 ∨ c = 127)) || (!(sign (dgt (c / 16)) || dgt (c / 16) == 35 || dgt (c / 16) == 61 || dgt (c / 16) == 32) && (hexv (dgt (c / 16)) == some (c / 16)) && (hexv (dgt (c % 16)) == some (c % 16)) && (16 * (c / 16) + c % 16 == c))) (by decide +kernel) c
  simp only [h, decide_true, Bool.not_true, Bool.false_or, Bool.and_eq_true, beq_iff_eq, Bool.not_eq_true'] at this
  exact ⟨this.1.1.1, this.1.1.2, this.1.2, this.2⟩
theorem rvF_cons (f : Nat) (den : B) (blank : Bool) (c : UInt8) (r : B) : rvF (f + 1) den blank (c :: r) = if c = 44 ∨ c = 43 then (if blank then none else some (den, c :: r)) else
    match one den c r with
    | none => none
    | some x => rvF f (den ++ [x.1]) x.2.1 x.2.2 := rfl
theorem readF_succ (f : Nat) (n : Nm) (step : Rd) (s : B) : readF (f + 1) n step s = (readA s).bind fun x => match x.2 with
    | [] => some (n ++ [step ++ [x.1]])
    | c :: r => if c = 44 then readF f (n ++ [step ++ [x.1]]) [] r else readF f n (step ++ [x.1]) r := rfl
/-- What a byte's text ends: it is read as that byte. -/
theorem rvF_byte (f : Nat) (den : B) (blank : Bool) (c : UInt8) (last : Bool) (t : B) :
    ∃ bb, rvF (f + 1) den blank (byT den.isEmpty last c ++ t) = rvF f (den ++ [c]) bb t ∧ (last = true → bb = false) := by
  unfold byT
  by_cases h1 : c < 32 ∨ c = 127
  · rw [if_pos h1]
    obtain ⟨h2, h3, h4, h5⟩ := ctl_text c h1
    refine ⟨false, ?_, fun _ => rfl⟩
    show rvF (f + 1) den blank (92 :: (dgt (c / 16) :: dgt (c % 16) :: t)) = _
    rw [rvF_cons]
    rw [if_neg (by decide)]
    have ho : one den 92 (dgt (c / 16) :: dgt (c % 16) :: t) = some (c, false, t) := by
      unfold one
      rw [if_pos rfl]
      have he : esc (dgt (c / 16) :: dgt (c % 16) :: t) = some (c, t) := by
        show (if (sign (dgt (c / 16)) || dgt (c / 16) == 35 || dgt (c / 16) == 61 || dgt (c / 16) == 32) = true then _ else _) = _
        rw [h2, if_neg (by decide)]
        simp only [h3, h4, h5]
      rw [he]
      rfl
    rw [ho]
  · rw [if_neg h1]
    cases h2 : (sign c || (c == 35 && den.isEmpty) || (c == 32 && (den.isEmpty || last))) with
    | true =>
      refine ⟨false, ?_, fun _ => rfl⟩
      rw [if_pos rfl]
      show rvF (f + 1) den blank (92 :: (c :: t)) = _
      rw [rvF_cons]
      rw [if_neg (by decide)]
      have he : (sign c || c == 35 || c == 61 || c == 32) = true := by
        revert h2
        cases sign c <;> cases (c == 35) <;> cases (c == 32) <;> simp
      have ho : one den 92 (c :: t) = some (c, false, t) := by
        unfold one
        rw [if_pos rfl]
        have hx : esc (c :: t) = some (c, t) := by
          show (if (sign c || c == 35 || c == 61 || c == 32) = true then _ else _) = _
          rw [he, if_pos rfl]
        rw [hx]
        rfl
      rw [ho]
    | false =>
      rw [if_neg (by decide)]
      have hs : sign c = false := by revert h2; cases sign c <;> simp
      refine ⟨c == 32, ?_, ?_⟩
      · show rvF (f + 1) den blank (c :: t) = _
        have h6 := u8_all (fun c => !(!sign c && !(decide (c < 32 ∨ c = 127))) || (!(decide (c = 44 ∨ c = 43)) && !(decide (c = 92)) && !(c == 34 || c == 59 || c == 60 || c == 62 || c == 0))) (by decide +kernel) c
        simp only [hs, h1, decide_false, Bool.not_false, Bool.and_self, Bool.not_true, Bool.false_or, Bool.and_eq_true, Bool.not_eq_true', decide_eq_false_iff_not] at h6
        obtain ⟨⟨h7, h8⟩, h9⟩ := h6
        rw [rvF_cons]
        rw [if_neg h7]
        have ho : one den c t = some (c, c == 32, t) := by
          unfold one
          rw [if_neg h8, h9]
          have h10 : ((c == 35 || c == 32) && den.isEmpty) = false := by
            revert h2
            cases (c == 35) <;> cases (c == 32) <;> cases den.isEmpty <;> simp
          rw [h10]
          rfl
        rw [ho]
      · intro hl
        subst hl
        revert h2
        cases (c == 32) <;> simp
theorem byT_len (a b : Bool) (c : UInt8) : 1 ≤ (byT a b c).length ∧ (byT a b c).length ≤ 3 := by
  unfold byT
  split
  · simp
  · split <;> simp
theorem valFrom_len : ∀ (v : B) (a : Bool), v.length ≤ (valFrom a v).length ∧ (valFrom a v).length ≤ 3 * v.length
  | [], a => by simp [valFrom]
  | c :: r, a => by
    have h1 := valFrom_len r false
    have h2 := byT_len a r.isEmpty c
    simp only [valFrom, List.length_append, List.length_cons]
    omega
/-- A value's text is read as that value, whatever stands behind it. -/
theorem rvF_val : ∀ (v den : B) (blank : Bool) (f : Nat) (t : B), (v = [] → blank = false) → (t = [] ∨ ∃ c r, t = c :: r ∧ (c = 44 ∨ c = 43)) → v.length < f → rvF f den blank (valFrom den.isEmpty v ++ t) = some (den ++ v, t)
  | [], den, blank, f + 1, t, hb, ht, _ => by
    obtain rfl := hb rfl
    rcases ht with rfl | ⟨c, r, rfl, hc⟩
    · simp [valFrom, rvF]
    · simp only [valFrom, List.nil_append, List.append_nil]
      rw [rvF_cons]
      rw [if_pos hc]
      rfl
  | c :: v, den, blank, f + 1, t, _, ht, hf => by
    simp only [valFrom, List.append_assoc]
    obtain ⟨bb, h1, h2⟩ := rvF_byte f den blank c v.isEmpty (valFrom false v ++ t)
    rw [h1]
    have h3 := rvF_val v (den ++ [c]) bb f t (fun hv => h2 (by rw [hv]; rfl)) ht (by simp at hf; omega)
    have h4 : (den ++ [c]).isEmpty = false := by cases den <;> rfl
    rw [h4] at h3
    rw [h3]
    simp
theorem rv_val (v t : B) (ht : t = [] ∨ ∃ c r, t = c :: r ∧ (c = 44 ∨ c = 43)) : rv (valT v ++ t) = some (v, t) := by
  have h := rvF_val v [] false ((valT v ++ t).length + 1) t (fun _ => rfl) ht (by have := (valFrom_len v true).1; rw [List.length_append]; show _ < (valFrom true v).length + _ + 1; omega)
  exact h
theorem cutEq_app : ∀ (t r : B), (∀ c ∈ t, c ≠ 61) → cutEq (t ++ 61 :: r) = some (t, r)
  | [], r, _ => by simp [cutEq]
  | c :: t, r, h => by
    have h1 := cutEq_app t r (fun c hc => h c (by simp [hc]))
    have h2 : c ≠ 61 := h c (by simp)
    simp [cutEq, h2, h1]
theorem readA_ava (a : Av) (t : B) (ha : ∀ c ∈ a.1, c ≠ 61) (ht : t = [] ∨ ∃ c r, t = c :: r ∧ (c = 44 ∨ c = 43)) : readA (avaT a ++ t) = some (a, t) := by
  unfold readA avaT
  rw [List.append_assoc, List.append_assoc, List.singleton_append, cutEq_app a.1 _ ha]
  simp only [Option.bind_some]
  rw [rv_val a.2 t ht]
  rfl
theorem avaT_len (a : Av) : 1 ≤ (avaT a).length := by simp [avaT]; omega
/-- A name whose types hold no = . -/
def noEq (r : Rd) : Prop := ∀ a ∈ r, ∀ c ∈ a.1, c ≠ 61
/-- A step's text is read. -/
theorem readF_step : ∀ (r : Rd) (n : Nm) (st : Rd) (t : B) (f : Nat), r ≠ [] → noEq r → (t = [] ∨ ∃ t', t = 44 :: t') → (stepT r ++ t).length ≤ f →
    readF (f + 1) n st (stepT r ++ t) = match t with | [] => some (n ++ [st ++ r]) | _ :: t' => readF f (n ++ [st ++ r]) [] t'
  | [], _, _, _, _, h, _, _, _ => absurd rfl h
  | [a], n, st, t, f, _, hq, ht, hf => by
    rw [readF_succ]
    rw [show stepT [a] = avaT a from rfl, readA_ava a t (hq a (by simp)) (ht.imp id fun ⟨t', e⟩ => ⟨44, t', e, .inl rfl⟩)]
    rcases ht with rfl | ⟨t', rfl⟩
    · rfl
    · rfl
  | a :: b :: r, n, st, t, f, _, hq, ht, hf => by
    have e : stepT (a :: b :: r) = avaT a ++ 43 :: stepT (b :: r) := by simp [stepT, joinB]
    rw [e] at hf ⊢
    have hA := readA_ava a (43 :: (stepT (b :: r) ++ t)) (hq a (by simp)) (.inr ⟨43, _, rfl, .inr rfl⟩)
    have h1 := avaT_len a
    simp only [List.length_append, List.length_cons] at hf
    obtain ⟨f', rfl⟩ : ∃ f', f = f' + 1 := ⟨f - 1, by omega⟩
    have ih := readF_step (b :: r) n (st ++ [a]) t f' (by simp) (fun x hx => hq x (by simp [hx])) ht (by simp only [List.length_append]; omega)
    rw [readF_succ]
    rw [List.append_assoc, List.cons_append, hA]
    simp only [Option.bind_some]
    rw [if_neg (by decide), ih]
    rcases ht with rfl | ⟨t', rfl⟩
    · simp
    · simp only [List.append_assoc, List.cons_append, List.nil_append]
      obtain ⟨f'', rfl⟩ : ∃ f'', f' = f'' + 1 := ⟨f' - 1, by simp only [List.length_cons] at hf; omega⟩
      exact readF_more f'' (f'' + 1) _ _ _ (by simp only [List.length_cons] at hf; omega) (by simp only [List.length_cons] at hf; omega)
/-- A whole name's text is read. -/
theorem readF_name : ∀ (m : Nm) (n : Nm) (f : Nat), m ≠ [] → (∀ r ∈ m, r ≠ [] ∧ noEq r) → (printT m).length ≤ f → readF (f + 1) n [] (printT m) = some (n ++ m)
  | [], _, _, h, _, _ => absurd rfl h
  | [r], n, f, _, hr, hf => by
    have h := readF_step r n [] [] f (hr r (by simp)).1 (hr r (by simp)).2 (.inl rfl) (by rw [List.append_nil]; exact hf)
    rw [List.append_nil] at h
    rw [show printT [r] = stepT r from rfl, h]
    simp
  | r :: s :: m, n, f, _, hr, hf => by
    have e : printT (r :: s :: m) = stepT r ++ 44 :: printT (s :: m) := by simp [printT, joinB]
    rw [e] at hf ⊢
    simp only [List.length_append, List.length_cons] at hf
    obtain ⟨f', rfl⟩ : ∃ f', f = f' + 1 := ⟨f - 1, by omega⟩
    rw [readF_step r n [] (44 :: printT (s :: m)) (f' + 1) (hr r (by simp)).1 (hr r (by simp)).2 (.inr ⟨_, rfl⟩) (by simp only [List.length_append, List.length_cons]; omega)]
    simp only [List.nil_append]
    rw [readF_name (s :: m) (n ++ [r]) f' (by simp) (fun x hx => hr x (by simp [hx])) (by omega)]
    simp
theorem typ_noEq {t : B} (h : typ t = true) : ∀ c ∈ t, c ≠ 61 ∧ c ≠ 0 := by
  have hk := fun (b : Bool) (c : UInt8) => u8_all (fun c => !(okAt b c) || (!(c == 61) && !(c == 0))) (by cases b <;> decide +kernel) c
  have hk' : ∀ (b : Bool) (c : UInt8), okAt b c = true → c ≠ 61 ∧ c ≠ 0 := fun b c hc => by have := hk b c; simpa [hc] using this
  cases t with
  | nil => intro c hc; cases hc
  | cons x r =>
    simp only [typ, Bool.and_eq_true, List.all_eq_true] at h
    intro c hc
    rcases List.mem_cons.1 hc with rfl | hc
    · exact hk' _ _ h.2.1
    · exact hk' _ _ (h.2.2 c hc)
theorem typs_mem : ∀ {r seen : Rd}, typs seen r = true → ∀ a ∈ r, typ a.1 = true
  | [], _, _, _, h => by cases h
  | b :: r, seen, h, a, ha => by
    simp only [typs, Bool.and_eq_true] at h
    rcases List.mem_cons.1 ha with rfl | ha
    · exact h.1.1
    · exact typs_mem h.2 a ha
theorem built_step {n : Nm} (h : built n = true) : ∀ r ∈ n, r ≠ [] ∧ r.length ≤ 4 ∧ (∀ a ∈ r, typ a.1 = true) ∧ noEq r := by
  intro r hr
  simp only [built, Bool.and_eq_true, List.all_eq_true] at h
  have h1 := h.2 r hr
  simp only [okStep, Bool.and_eq_true, decide_eq_true_eq] at h1
  have h2 := typs_mem h1.2
  exact ⟨fun e => by subst e; simp at h1, h1.1.2, h2, fun a ha c hc => (typ_noEq (h2 a ha) c hc).1⟩
theorem joinB_nil {sep : B} {L : List B} (h : joinB sep L = []) : L = [] ∨ L = [[]] ∨ sep = [] := by
  match L, h with
  | [], _ => exact .inl rfl
  | [a], h => exact .inr (.inl (by rw [show joinB sep [a] = a from rfl] at h; rw [h]))
  | a :: b :: r, h =>
    simp only [joinB, List.append_eq_nil_iff] at h
    exact .inr (.inr h.1.2)
theorem stepT_ne {r : Rd} (h : r ≠ []) : stepT r ≠ [] := by
  intro e
  rcases joinB_nil e with h1 | h1 | h1
  · exact h (by simpa using h1)
  · obtain ⟨a, r', rfl⟩ := List.exists_cons_of_ne_nil h
    simp only [List.map_cons, List.cons.injEq] at h1
    have := avaT_len a
    rw [h1.1] at this
    simp at this
  · cases h1
theorem read_print {n : Nm} (h : ∀ r ∈ n, r ≠ [] ∧ noEq r) : read (printT n) = some n := by
  unfold read
  cases n with
  | nil => rfl
  | cons r m =>
    have hne : printT (r :: m) ≠ [] := by
      intro e
      rcases joinB_nil e with h1 | h1 | h1
      · cases h1
      · simp only [List.map_cons, List.cons.injEq] at h1
        exact stepT_ne (h r (by simp)).1 h1.1
      · cases h1
    rw [if_neg hne]
    rw [readF_name (r :: m) [] _ (by simp) h (Nat.le_refl _)]
    rfl
theorem parse_print {n : Nm} (h : right n = true) : parse (printT n) = (n, 0) := by
  simp only [right, Bool.and_eq_true, decide_eq_true_eq] at h
  unfold parse
  rw [if_neg (by omega), read_print (fun r hr => ⟨(built_step h.1 r hr).1, (built_step h.1 r hr).2.2.2⟩)]
  simp [h.1]
/-! ### The order of texts -/
def ltB : B → B → Bool
  | [], [] => false
  | [], _ :: _ => true
  | _ :: _, [] => false
  | a :: r, b :: s => decide (a < b) || (a == b && ltB r s)
theorem cmp_lt : ∀ a b : B, decide (Lib.compareBytes a b < 0) = ltB a b
  | [], [] => rfl
  | [], _ :: _ => rfl
  | _ :: _, [] => rfl
  | a :: r, b :: s => by
    have ih := cmp_lt r s
    unfold Lib.compareBytes ltB
    by_cases h : a < b
    · simp [h]
    · by_cases h2 : b < a
      · have hne : (a == b) = false := by
          rw [beq_eq_false_iff_ne]
          intro e; subst e
          exact h h2
        simp [h, h2, hne]
      · have he : a = b := by
          rw [UInt8.lt_iff_toNat_lt] at h h2
          exact UInt8.toNat_inj.1 (by omega)
        subst he
        simp [ih]
theorem ltB_irr : ∀ a : B, ltB a a = false
  | [] => rfl
  | a :: r => by simp [ltB, ltB_irr r]
theorem ltB_trans : ∀ a b c : B, ltB a b = true → ltB b c = true → ltB a c = true
  | [], [], _, h, _ => by cases h
  | [], _ :: _, [], _, h => by cases h
  | [], _ :: _, _ :: _, _, _ => rfl
  | _ :: _, [], _, h, _ => by cases h
  | _ :: _, _ :: _, [], _, h => by cases h
  | a :: r, b :: s, c :: t, h, k => by
    simp only [ltB, Bool.or_eq_true, Bool.and_eq_true, decide_eq_true_eq, beq_iff_eq] at h k ⊢
    rcases h with h | ⟨rfl, h⟩ <;> rcases k with k | ⟨rfl, k⟩
    · exact .inl (UInt8.lt_trans h k)
    · exact .inl h
    · exact .inl k
    · exact .inr ⟨rfl, ltB_trans r s t h k⟩
theorem ltB_tot : ∀ a b : B, ltB a b = false → ltB b a = false → a = b
  | [], [], _, _ => rfl
  | [], _ :: _, h, _ => by cases h
  | _ :: _, [], _, h => by cases h
  | a :: r, b :: s, h, k => by
    simp only [ltB, Bool.or_eq_false_iff, Bool.and_eq_false_imp, decide_eq_false_iff_not, beq_iff_eq] at h k
    have he : a = b := by
      have h1 := h.1; have k1 := k.1
      rw [UInt8.lt_iff_toNat_lt] at h1 k1
      exact UInt8.toNat_inj.1 (by omega)
    subst he
    rw [ltB_tot r s (h.2 rfl) (k.2 rfl)]
theorem ltB_asymm {a b : B} (h : ltB a b = true) : ltB b a = false := by
  cases k : ltB b a with
  | false => rfl
  | true => have := ltB_trans a b a h k; rw [ltB_irr] at this; cases this
theorem le_trans {a b c : B} (h : ltB b a = false) (k : ltB c b = false) : ltB c a = false := by
  cases j : ltB c a with
  | false => rfl
  | true =>
    cases m : ltB a b with
    | true => rw [ltB_trans c a b j m] at k; cases k
    | false => rw [ltB_tot a b m h] at j; rw [j] at k; cases k
/-! ### Folded values -/
def words : B → B → List B
  | cur, [] => if cur.isEmpty then [] else [cur]
  | cur, c :: r => if c = 32 then (if cur.isEmpty then words [] r else cur :: words [] r) else words (cur ++ [c]) r
def fold (v : B) : B := joinB [32] (words [] (low v))
theorem lo_lo (c : UInt8) : lo (lo c) = lo c := by
  have := u8_all (fun c => lo (lo c) == lo c) (by decide +kernel) c
  simpa using this
theorem low_low (s : B) : low (low s) = low s := by simp [low, lo_lo]
theorem low_length (s : B) : (low s).length = s.length := by simp [low]
theorem words_in : ∀ (s cur : B), (∀ c ∈ cur, c ≠ 32 ∧ lo c = c) → (∀ c ∈ s, lo c = c) → ∀ x ∈ words cur s, x ≠ [] ∧ ∀ c ∈ x, c ≠ 32 ∧ lo c = c
  | [], cur, h, _, x, hx => by
    unfold words at hx
    cases cur with
    | nil => cases hx
    | cons a r =>
      obtain rfl : x = a :: r := by simpa using hx
      exact ⟨by simp, h⟩
  | c :: r, cur, h, hs, x, hx => by
    unfold words at hx
    split at hx
    · cases cur with
      | nil => exact words_in r [] (fun _ hc => by cases hc) (fun d hd => hs d (by simp [hd])) x hx
      | cons a q =>
        rcases List.mem_cons.1 hx with rfl | hx
        · exact ⟨by simp, h⟩
        · exact words_in r [] (fun _ hc => by cases hc) (fun d hd => hs d (by simp [hd])) x hx
    · rename_i hc
      exact words_in r (cur ++ [c]) (fun d hd => by
        rcases List.mem_append.1 hd with hd | hd
        · exact h d hd
        · obtain rfl := List.mem_singleton.1 hd
          exact ⟨hc, hs _ (by simp)⟩) (fun d hd => hs d (by simp [hd])) x hx
theorem words_run : ∀ (x cur r : B), (∀ c ∈ x, c ≠ 32) → words cur (x ++ r) = words (cur ++ x) r
  | [], cur, r, _ => by simp
  | c :: x, cur, r, h => by
    have hc : c ≠ 32 := h c (by simp)
    rw [List.cons_append]
    conv => lhs; unfold words
    rw [if_neg hc, words_run x _ r (fun d hd => h d (by simp [hd]))]
    simp
theorem words_join : ∀ (L : List B), (∀ x ∈ L, x ≠ [] ∧ ∀ c ∈ x, c ≠ 32) → words [] (joinB [32] L) = L
  | [], _ => rfl
  | [a], h => by
    have ha := h a (by simp)
    have h1 := words_run a [] [] ha.2
    rw [List.append_nil, List.nil_append] at h1
    rw [show joinB [32] [a] = a from rfl, h1]
    cases a with
    | nil => exact absurd rfl ha.1
    | cons _ _ => rfl
  | a :: b :: r, h => by
    have ha := h a (by simp)
    have e : joinB [32] (a :: b :: r) = a ++ 32 :: joinB [32] (b :: r) := by simp [joinB]
    have h1 := words_run a [] (32 :: joinB [32] (b :: r)) ha.2
    rw [List.nil_append] at h1
    rw [e, h1]
    unfold words
    rw [if_pos rfl, words_join (b :: r) (fun x hx => h x (by simp [hx]))]
    cases a with
    | nil => exact absurd rfl ha.1
    | cons _ _ => rfl
theorem low_self {s : B} (h : ∀ c ∈ s, lo c = c) : low s = s := by
  unfold low
  conv => rhs; rw [← List.map_id s]
  exact List.map_congr_left (fun c hc => by simp [h c hc])
theorem join_all {p : UInt8 → Prop} {sep : B} : ∀ (L : List B), (∀ x ∈ L, ∀ c ∈ x, p c) → (∀ c ∈ sep, p c) → ∀ c ∈ joinB sep L, p c
  | [], _, _, c, hc => by cases hc
  | [a], h, _, c, hc => h a (by simp) c hc
  | a :: b :: r, h, hs, c, hc => by
    simp only [joinB, List.mem_append] at hc
    rcases hc with (hc | hc) | hc
    · exact h a (by simp) c hc
    · exact hs c hc
    · exact join_all (b :: r) (fun x hx => h x (by simp [hx])) hs c hc
theorem low_all (v : B) : ∀ c ∈ low v, lo c = c := by
  intro c hc
  obtain ⟨d, _, rfl⟩ := List.mem_map.1 hc
  exact lo_lo d
theorem words_low (v : B) : ∀ x ∈ words [] (low v), x ≠ [] ∧ ∀ c ∈ x, c ≠ 32 ∧ lo c = c := words_in (low v) [] (fun _ h => by cases h) (low_all v)
theorem fold_low (v : B) : low (fold v) = fold v := low_self (join_all _ (fun x hx c hc => ((words_low v x hx).2 c hc).2) (fun c hc => by obtain rfl := List.mem_singleton.1 hc; decide))
theorem fold_fold (v : B) : fold (fold v) = fold v := by
  show joinB [32] (words [] (low (fold v))) = fold v
  rw [fold_low]
  unfold fold
  rw [words_join _ (fun x hx => ⟨(words_low v x hx).1, fun c hc => ((words_low v x hx).2 c hc).1⟩)]
theorem words_len : ∀ (s cur : B), (joinB [32] (words cur s)).length ≤ cur.length + s.length
  | [], cur => by
    unfold words
    cases cur <;> simp [joinB]
  | c :: r, cur => by
    unfold words
    split
    · have h := words_len r []
      cases cur with
      | nil => simp only [List.isEmpty_nil, if_true, List.length_nil, List.length_cons] at h ⊢; omega
      | cons a q =>
        simp only [List.isEmpty_cons, Bool.false_eq_true, if_false]
        cases hw : words [] r with
        | nil => simp [joinB]
        | cons b t =>
          rw [hw] at h
          simp only [joinB, List.length_append, List.length_cons, List.length_nil] at h ⊢
          omega
    · have h := words_len r (cur ++ [c])
      simp only [List.length_append, List.length_cons, List.length_nil] at h ⊢
      omega
theorem words_count : ∀ (s cur : B), (words cur s).length ≤ s.length + (if cur.isEmpty then 0 else 1)
  | [], cur => by
    unfold words
    cases cur <;> simp
  | c :: r, cur => by
    unfold words
    have h0 := words_count r []
    have h1 := words_count r (cur ++ [c])
    have h2 : (cur ++ [c]).isEmpty = false := by cases cur <;> rfl
    rw [h2] at h1
    simp only [List.isEmpty_nil, if_true, Bool.false_eq_true, if_false] at h0 h1
    split
    · cases cur with
      | nil => simp; omega
      | cons a q => simp; omega
    · simp only [List.length_cons]
      omega
theorem fold_len (v : B) : (fold v).length ≤ v.length := by
  have := words_len (low v) []
  rw [low_length] at this
  simpa [fold] using this
/-! ### Folded names -/
def insR (a : Av) : Rd → Rd
  | [] => [a]
  | b :: r => if ltB a.1 b.1 then a :: b :: r else b :: insR a r
def srt (r : Rd) : Rd := r.foldl (fun acc a => insR a acc) []
def foldA (a : Av) : Av := (low a.1, fold a.2)
def normR (r : Rd) : Rd := srt (r.map foldA)
def norm (n : Nm) : Nm := n.map normR
def key (n : Nm) : B := ((norm n).reverse.map fun r => stepT r ++ [0]).flatten
def under (n b : Nm) : Bool := decide (b.length ≤ n.length) && decide (norm (n.drop (n.length - b.length)) = norm b)
theorem foldA_foldA (a : Av) : foldA (foldA a) = foldA a := by simp [foldA, low_low, fold_fold]
theorem insR_mem (a x : Av) : ∀ r : Rd, x ∈ insR a r ↔ x = a ∨ x ∈ r
  | [] => by simp [insR]
  | b :: r => by
    unfold insR
    split
    · simp
    · simp only [List.mem_cons, insR_mem a x r]
      constructor <;> rintro (h | h | h) <;> simp [h]
theorem insR_len (a : Av) : ∀ r : Rd, (insR a r).length = r.length + 1
  | [] => rfl
  | b :: r => by
    unfold insR
    split
    · simp
    · simp [insR_len a r]
theorem fold_mem (x : Av) : ∀ (r acc : Rd), x ∈ r.foldl (fun acc a => insR a acc) acc ↔ x ∈ acc ∨ x ∈ r
  | [], acc => by simp
  | a :: r, acc => by
    rw [List.foldl_cons, fold_mem x r, insR_mem]
    simp only [List.mem_cons]
    constructor
    · rintro ((h | h) | h) <;> simp [h]
    · rintro (h | h | h) <;> simp [h]
theorem srt_mem {x : Av} {r : Rd} : x ∈ srt r ↔ x ∈ r := by simp [srt, fold_mem]
theorem foldl_len : ∀ (r acc : Rd), (r.foldl (fun acc a => insR a acc) acc).length = acc.length + r.length
  | [], acc => by simp
  | a :: r, acc => by
    rw [List.foldl_cons, foldl_len r, insR_len, List.length_cons]
    omega
theorem srt_len (r : Rd) : (srt r).length = r.length := by simp [srt, foldl_len]
/-- In an order; like ones may be there. -/
def Sd (r : Rd) : Prop := r.Pairwise fun a b => ltB b.1 a.1 = false
theorem insR_sorted (a : Av) : ∀ {r : Rd}, Sd r → Sd (insR a r)
  | [], _ => by simp [insR, Sd]
  | b :: r, h => by
    obtain ⟨h1, h2⟩ := List.pairwise_cons.1 h
    unfold insR
    split
    · rename_i hlt
      refine List.pairwise_cons.2 ⟨fun x hx => ?_, h⟩
      rcases List.mem_cons.1 hx with rfl | hx
      · exact ltB_asymm hlt
      · exact le_trans (ltB_asymm hlt) (h1 x hx)
    · rename_i hlt
      refine List.pairwise_cons.2 ⟨fun x hx => ?_, insR_sorted a h2⟩
      rcases (insR_mem a x r).1 hx with rfl | hx
      · simpa using hlt
      · exact h1 x hx
theorem foldl_sorted : ∀ (r acc : Rd), Sd acc → Sd (r.foldl (fun acc a => insR a acc) acc)
  | [], _, h => h
  | a :: r, _, h => foldl_sorted r _ (insR_sorted a h)
theorem srt_sorted (r : Rd) : Sd (srt r) := foldl_sorted r [] List.Pairwise.nil
theorem insR_end (a : Av) : ∀ {r : Rd}, (∀ b ∈ r, ltB a.1 b.1 = false) → insR a r = r ++ [a]
  | [], _ => rfl
  | b :: r, h => by
    unfold insR
    rw [if_neg (by simp [h b (by simp)]), insR_end a (fun x hx => h x (by simp [hx]))]
    rfl
theorem foldl_self : ∀ (r acc : Rd), Sd (acc ++ r) → r.foldl (fun acc a => insR a acc) acc = acc ++ r
  | [], _, _ => by simp
  | a :: r, acc, h => by
    have h1 : insR a acc = acc ++ [a] := insR_end a fun b hb => (List.pairwise_append.1 h).2.2 b hb a (by simp)
    rw [List.foldl_cons, h1, foldl_self r _ (by simpa using h)]
    simp
theorem srt_self {r : Rd} (h : Sd r) : srt r = r := by
  have := foldl_self r [] (by simpa using h)
  simpa [srt] using this
theorem normR_normR (r : Rd) : normR (normR r) = normR r := by
  have h : (normR r).map foldA = normR r := by
    conv => rhs; rw [← List.map_id (normR r)]
    refine List.map_congr_left fun a ha => ?_
    obtain ⟨b, _, rfl⟩ := List.mem_map.1 (srt_mem.1 ha)
    simp [foldA_foldA]
  unfold normR at h ⊢
  rw [h]
  exact srt_self (srt_sorted _)
theorem norm_norm (n : Nm) : norm (norm n) = norm n := by simp [norm, normR_normR]
theorem norm_length (n : Nm) : (norm n).length = n.length := by simp [norm]
/-! ### Keys -/
theorem typ_low {t : B} (h : typ t = true) : typ (low t) = true := by
  have hk := fun (b : Bool) (c : UInt8) => u8_all (fun c => okAt b (lo c) == okAt b c) (by cases b <;> decide +kernel) c
  have hk' : ∀ (b : Bool) (c : UInt8), okAt b (lo c) = okAt b c := fun b c => by simpa using hk b c
  unfold typ at h ⊢
  rw [low_length]
  cases t with
  | nil => exact h
  | cons x r =>
    simp only [low, List.map_cons, List.all_map, Bool.and_eq_true, hk'] at h ⊢
    refine ⟨h.1, h.2.1, ?_⟩
    rw [List.all_eq_true] at *
    intro c hc
    exact (hk' false c).trans (h.2.2 c hc)
/-- What a folded step that may be is. -/
theorem norm_step {n : Nm} (h : built n = true) : ∀ r ∈ norm n, r ≠ [] ∧ (∀ a ∈ r, typ a.1 = true) ∧ noEq r := by
  intro r hr
  obtain ⟨q, hq, rfl⟩ := List.mem_map.1 hr
  obtain ⟨h1, h2, h3, h4⟩ := built_step h q hq
  have ht : ∀ a ∈ normR q, typ a.1 = true := by
    intro a ha
    obtain ⟨b, hb, rfl⟩ := List.mem_map.1 (srt_mem.1 ha)
    exact typ_low (h3 b hb)
  refine ⟨fun e => ?_, ht, fun a ha c hc => (typ_noEq (ht a ha) c hc).1⟩
  have := congrArg List.length e
  rw [normR, srt_len, List.length_map] at this
  exact h1 (List.eq_nil_of_length_eq_zero this)
theorem valFrom_zero : ∀ (v : B) (b : Bool), ∀ c ∈ valFrom b v, c ≠ 0
  | [], _, _, h => by cases h
  | x :: r, b, c, h => by
    simp only [valFrom, List.mem_append] at h
    rcases h with h | h
    · have h0 : ∀ (l : Bool), (byT b l x).all (fun c => !(c == 0)) = true := fun l => u8_all (fun x => (byT b l x).all (fun c => !(c == 0))) (by cases b <;> cases l <;> decide +kernel) x
      have := List.all_eq_true.1 (h0 r.isEmpty) c h
      simpa using this
    · exact valFrom_zero r false c h
theorem stepT_zero {r : Rd} (h : ∀ a ∈ r, typ a.1 = true) : ∀ c ∈ stepT r, c ≠ 0 := by
  refine join_all _ ?_ (fun c hc => by obtain rfl := List.mem_singleton.1 hc; decide)
  intro x hx c hc
  obtain ⟨a, ha, rfl⟩ := List.mem_map.1 hx
  simp only [avaT, List.mem_append, List.mem_singleton] at hc
  rcases hc with (hc | rfl) | hc
  · exact (typ_noEq (h a ha) c hc).2
  · decide
  · exact valFrom_zero _ _ c hc
theorem stepT_inj {r s : Rd} (h1 : r ≠ []) (h2 : noEq r) (h3 : s ≠ []) (h4 : noEq s) (h : stepT r = stepT s) : r = s := by
  have e1 := read_print (n := [r]) (fun x hx => by obtain rfl := List.mem_singleton.1 hx; exact ⟨h1, h2⟩)
  have e2 := read_print (n := [s]) (fun x hx => by obtain rfl := List.mem_singleton.1 hx; exact ⟨h3, h4⟩)
  have e3 : printT [r] = printT [s] := h
  rw [e3, e2] at e1
  simp only [Option.some.injEq, List.cons.injEq, and_true] at e1
  exact e1.symm
theorem zero_split : ∀ {a b r s : B}, (∀ c ∈ a, c ≠ 0) → (∀ c ∈ b, c ≠ 0) → a ++ 0 :: r = b ++ 0 :: s → a = b ∧ r = s
  | [], [], r, s, _, _, h => by simpa using h
  | [], x :: b, r, s, _, hb, h => by
    simp only [List.nil_append, List.cons_append, List.cons.injEq] at h
    exact absurd h.1.symm (hb x (by simp))
  | x :: a, [], r, s, ha, _, h => by
    simp only [List.nil_append, List.cons_append, List.cons.injEq] at h
    exact absurd h.1 (ha x (by simp))
  | x :: a, y :: b, r, s, ha, hb, h => by
    simp only [List.cons_append, List.cons.injEq] at h
    obtain ⟨h1, h2⟩ := zero_split (fun c hc => ha c (by simp [hc])) (fun c hc => hb c (by simp [hc])) h.2
    exact ⟨by rw [h.1, h1], h2⟩
def keyL (L : Nm) : B := (L.map fun r => stepT r ++ [0]).flatten
theorem keyL_prefix : ∀ {M L : Nm}, (∀ r ∈ L, r ≠ [] ∧ (∀ a ∈ r, typ a.1 = true) ∧ noEq r) → (∀ r ∈ M, r ≠ [] ∧ (∀ a ∈ r, typ a.1 = true) ∧ noEq r) → (keyL M <+: keyL L ↔ M <+: L)
  | [], L, _, _ => by simp [keyL]
  | r :: M, [], _, _ => by simp [keyL]
  | r :: M, s :: L, hL, hM => by
    obtain ⟨r1, r2, r3⟩ := hM r (by simp)
    obtain ⟨s1, s2, s3⟩ := hL s (by simp)
    have ih := keyL_prefix (M := M) (L := L) (fun x hx => hL x (by simp [hx])) (fun x hx => hM x (by simp [hx]))
    have e : ∀ (q : Rd) (N : Nm), keyL (q :: N) = stepT q ++ 0 :: keyL N := fun q N => by simp [keyL]
    rw [e, e]
    constructor
    · rintro ⟨t, ht⟩
      rw [List.append_assoc, List.cons_append] at ht
      obtain ⟨h1, h2⟩ := zero_split (stepT_zero r2) (stepT_zero s2) ht
      obtain rfl := stepT_inj r1 r3 s1 s3 h1
      exact List.cons_prefix_cons.2 ⟨rfl, ih.1 ⟨t, h2⟩⟩
    · intro h
      obtain ⟨e1, h2⟩ := List.cons_prefix_cons.1 h
      subst e1
      obtain ⟨t, ht⟩ := ih.2 h2
      exact ⟨t, by rw [List.append_assoc, List.cons_append, ht]⟩
theorem key_eq (n : Nm) : key n = keyL (norm n).reverse := rfl
/-- Under is said by keys. -/
theorem under_key {a b : Nm} (ha : built a = true) (hb : built b = true) : under a b = true ↔ key b <+: key a := by
  rw [key_eq, key_eq, keyL_prefix (fun r hr => norm_step ha r (List.mem_reverse.1 hr)) (fun r hr => norm_step hb r (List.mem_reverse.1 hr)), List.reverse_prefix]
  unfold under
  simp only [Bool.and_eq_true, decide_eq_true_eq]
  have e : norm (a.drop (a.length - b.length)) = (norm a).drop (a.length - b.length) := by simp [norm, List.map_drop]
  rw [e]
  constructor
  · rintro ⟨_, h⟩
    rw [← h]
    exact List.drop_suffix _ _
  · intro h
    have h1 := h.length_le
    rw [norm_length, norm_length] at h1
    refine ⟨h1, ?_⟩
    obtain ⟨t, ht⟩ := h
    have hl := congrArg List.length ht
    rw [List.length_append, norm_length, norm_length] at hl
    rw [← ht, show a.length - b.length = t.length by omega, List.drop_left]
theorem same_key {a b : Nm} (ha : built a = true) (hb : built b = true) : norm a = norm b ↔ key a = key b := by
  constructor
  · intro h; rw [key_eq, key_eq, h]
  · intro h
    have h1 := (keyL_prefix (M := (norm b).reverse) (L := (norm a).reverse) (fun r hr => norm_step ha r (List.mem_reverse.1 hr)) (fun r hr => norm_step hb r (List.mem_reverse.1 hr))).1 (by rw [← key_eq, ← key_eq, h]; exact List.prefix_refl _)
    have h2 := (keyL_prefix (M := (norm a).reverse) (L := (norm b).reverse) (fun r hr => norm_step hb r (List.mem_reverse.1 hr)) (fun r hr => norm_step ha r (List.mem_reverse.1 hr))).1 (by rw [← key_eq, ← key_eq, h]; exact List.prefix_refl _)
    have h3 := h2.eq_of_length (by have := h1.length_le; have := h2.length_le; omega)
    have := congrArg List.reverse h3
    simpa using this
end Go.Proofs.YtnjemnmhkhkpeaaDoor.DN
namespace Go.Proofs.YtnjemnmhkhkpeaaDoor.DN
set_option maxRecDepth 100000
open Go.RowKit K Go.Proofs.YtnjemnmhkhkpeaaDoor.BE
theorem u8_back (c : UInt8) : ((c.toNat : Int).toNat.toUInt8) = c := by simp
theorem sliteIndexByte (s : B) (c : UInt8) (w : World) : Calls Tryd.prog 64 #[.string (sb s), .int .u8 (c.toNat : Int)] w fun e w' => e = .returned (.int .i64 (Lib.indexByte s c)) ∧ w' = w := by
  obtain ⟨x, hx⟩ : ∃ x : Int, (c.toNat : Int) = x := ⟨_, rfl⟩
  have HX : Hid (Lib.indexByte s c = Lib.indexByte (sb s).data.toList x.toNat.toUInt8) := hid (by rw [← hx, u8_back, sb_list])
  rw [HX.out, hx]
  clear HX hx
  go_enter Tryd.func64, Tryd.ntmps64
  go_wp2
  rw [run_callFunc_extern Tryd.func71 (by kernel_rfl) (by kernel_rfl) (by kernel_rfl) (e := Extern.BytealgIndexByte.indexByte) (by kernel_rfl), Lib.run_indexByteString]
  simp only [Result.andThen]
  rw [Oper.upon_value]
  go_wp2
  go_ret
  exact ⟨rfl, rfl⟩
theorem indexByte_any (s : B) (c : UInt8) (w : World) : Calls Tryd.prog 60 #[.string (sb s), .int .u8 (c.toNat : Int)] w fun e w' => e = .returned (.int .i64 (Lib.indexByte s c)) ∧ w' = w := by
  have H := hid (sliteIndexByte s c w)
  obtain ⟨x, hx⟩ : ∃ x : Int, (c.toNat : Int) = x := ⟨_, rfl⟩
  obtain ⟨y, hy⟩ : ∃ y : Int, Lib.indexByte s c = y := ⟨_, rfl⟩
  rw [hx, hy] at H ⊢
  clear hx hy
  go_enter Tryd.func60, Tryd.ntmps60
  go_wp2_with fail
  refine H.out.mono ?_
  rintro e w1 ⟨rfl, rfl⟩
  go_wp2_with fail
  go_ret
  exact ⟨rfl, rfl⟩
theorem compareString_any (a b : B) (w : World) : Calls Tryd.prog 42 #[.string (sb a), .string (sb b)] w fun e w' => e = .returned (.int .i64 (Lib.compareBytes a b)) ∧ w' = w := by
  have HX : Hid (Lib.compareBytes a b = Lib.compareBytes (sb a).data.toList (sb b).data.toList) := hid (by rw [sb_list, sb_list])
  rw [HX.out]
  clear HX
  go_enter Tryd.func42, Tryd.ntmps42
  go_wp2
  rw [run_callFunc_extern Tryd.func54 (by kernel_rfl) (by kernel_rfl) (by kernel_rfl) (e := Extern.BytealgCompare.compare) (by kernel_rfl), Lib.run_compareString]
  simp only [Result.andThen]
  rw [Oper.upon_value]
  go_wp2
  go_ret
  exact ⟨rfl, rfl⟩
theorem compare_any (a b : B) (w : World) : Calls Tryd.prog 32 #[.string (sb a), .string (sb b)] w fun e w' => e = .returned (.int .i64 (Lib.compareBytes a b)) ∧ w' = w := by
  have H := hid (compareString_any a b w)
  obtain ⟨y, hy⟩ : ∃ y : Int, Lib.compareBytes a b = y := ⟨_, rfl⟩
  rw [hy] at H ⊢
  clear hy
  go_enter Tryd.func32, Tryd.ntmps32
  go_wp2_with fail
  refine H.out.mono ?_
  rintro e w1 ⟨rfl, rfl⟩
  go_wp2_with fail
  go_ret
  exact ⟨rfl, rfl⟩
/-- Where the first one is. -/
theorem cut_index : ∀ s : B, (cutEq s = none ∧ Lib.indexByte s 61 = -1) ∨ ∃ (i : Nat) (a b : B), cutEq s = some (a, b) ∧ Lib.indexByte s 61 = i ∧ s = a ++ 61 :: b ∧ a.length = i
  | [] => .inl ⟨rfl, rfl⟩
  | c :: r => by
    by_cases hc : c = 61
    · subst hc
      exact .inr ⟨0, [], r, by simp [cutEq], by simp [Lib.indexByte], rfl, rfl⟩
    · rcases cut_index r with ⟨h1, h2⟩ | ⟨i, a, b, h1, h2, h3, h4⟩
      · left
        refine ⟨by simp [cutEq, hc, h1], ?_⟩
        unfold Lib.indexByte
        rw [h2]
        simp [hc]
      · right
        refine ⟨i + 1, c :: a, b, by simp [cutEq, hc, h1], ?_, by rw [h3]; rfl, by simp [h4]⟩
        unfold Lib.indexByte
        rw [h2]
        have h5 : ((i : Int) == -1) = false := by rw [beq_eq_false_iff_ne]; omega
        simp [hc, h5]
theorem sliteIndex_eq (s : B) (w : World) : Calls Tryd.prog 62 #[.string (sb s), .string (sb [61])] w fun e w' => e = .returned (.int .i64 (Lib.indexByte s 61)) ∧ w' = w := by
  have H := hid (sliteIndexByte s 61 w)
  have HEQ : Hid (([61] == ByteArray.toList (sb s)) = decide ([61] = s)) := hid (by have := neq_sb [61] s; rw [ByteArray.toList_eq, sb_list] at this; exact this)
  by_cases he : [61] = s
  · subst he
    have h0 : Lib.indexByte [61] 61 = 0 := rfl
    rw [h0]
    rw [decide_eq_true rfl] at HEQ
    have hq := HEQ.out
    rw [show sb [61] = (⟨#[61]⟩ : ByteArray) from rfl] at hq ⊢
    clear H h0 HEQ
    go_enter Tryd.func62, Tryd.ntmps62
    go_wp2
    go_ret
    exact ⟨rfl, rfl⟩
  · rw [decide_eq_false he] at HEQ
    have hq := HEQ.out
    obtain ⟨y, hy⟩ : ∃ y : Int, Lib.indexByte s 61 = y := ⟨_, rfl⟩
    rw [hy] at H ⊢
    clear hy he HEQ
    rw [show ((61 : UInt8).toNat : Int) = 61 from rfl] at H
    rw [show sb [61] = (⟨#[61]⟩ : ByteArray) from rfl]
    go_enter Tryd.func62, Tryd.ntmps62
    go_wp2_with fail
    refine H.out.mono ?_
    rintro e w1 ⟨rfl, rfl⟩
    go_wp2_with fail
    go_ret
    exact ⟨rfl, rfl⟩
/-- What is told of a text that is cut at its first sign =. -/
def cutE (s : B) : Value := match cutEq s with
  | none => .tuple #[.string (sb s), .string (sb []), .bool false]
  | some x => .tuple #[.string (sb x.1), .string (sb x.2), .bool true]
theorem sliteCut (s : B) (hs : Sz s) (w : World) : Calls Tryd.prog 55 #[.string (sb s), .string (sb [61])] w fun e w' => e = .returned (cutE s) ∧ Fr No w w' := by
  have H := hid (sliteIndex_eq s w)
  have hz : (sb [61]).size = 1 := rfl
  have HZ := hid hz
  clear hz
  rcases cut_index s with ⟨h1, h2⟩ | ⟨i, a, b, h1, h2, h3, h4⟩
  · have HE : Hid (cutE s = .tuple #[.string (sb s), .string ⟨#[]⟩, .bool false]) := hid (by unfold cutE; rw [h1]; rfl)
    rw [h2] at H
    rw [HE.out]
    clear h1 h2 HE
    go_enter Tryd.func55, Tryd.ntmps55
    go_wp2_with fail
    refine H.out.mono ?_
    rintro e w1 ⟨rfl, rfl⟩
    go_wp2_with fail
    refine ret_three rfl rfl ⟨rfl, Fr.refl _ _⟩
  · have HE : Hid (cutE s = .tuple #[.string (sb a), .string (sb b), .bool true]) := hid (by unfold cutE; rw [h1])
    have hsl : s.length = i + 1 + b.length := by rw [h3, List.length_append, List.length_cons, h4]; omega
    have h5 : s.take i = a := by rw [h3, ← h4, List.take_left]
    have h6 : s.drop (i + 1) = b := by rw [h3, ← h4]; simp
    have hwr : IntKind.i64.wrap ((i : Int) + 1) = (i : Int) + 1 := by unfold Sz at hs; rw [IntKind.wrap_i64]; omega
    have HT := hid h5; have HD := hid h6; have HL := hid hsl
    have hi : (i : Int) ≤ 140737488351232 := by unfold Sz at hs; omega
    have hi0 : (0 : Int) ≤ i := by omega
    have hq1 : decide ((0 : Int) ≤ i) = true := decide_eq_true hi0
    rw [h2] at H
    rw [HE.out]
    clear h1 h2 h3 h4 h5 h6 HE hsl hs
    go_enter Tryd.func55, Tryd.ntmps55
    go_wp2_with fail
    refine H.out.mono ?_
    rintro e w1 ⟨rfl, rfl⟩
    go_wp2_with fail
    have hold : Facts.hold [] w1.drew := Facts.nil_hold _
    refine wpD_region hold (by kernel_rfl) 12 rfl ?_
    (refine K.pl 0 (v := ?_) rfl ?_ ?_; rotate_left; (intro _w; go_simp; try with_reducible rfl); simp only [Act.put, K.put3])
    (refine K.pl 1 (v := ?_) rfl ?_ ?_; rotate_left; (intro _w; go_simp; try with_reducible rfl); simp only [Act.put, K.put3])
    (refine K.pl 2 (v := (.string (sb a))) rfl ?_ ?_; (intro _w; exact exec_to _ _ rfl s i rfl rfl (by rw [HL.out]; omega) _ HT.out _w); simp only [Act.put, K.put3])
    (refine K.pl 3 (v := ?_) rfl ?_ ?_; rotate_left; (intro _w; go_simp; try with_reducible rfl); simp only [Act.put, K.put3])
    (refine K.pl 4 (v := ?_) rfl ?_ ?_; rotate_left; (intro _w; go_simp; try with_reducible rfl); simp only [Act.put, K.put3])
    (refine K.pl 5 (v := ?_) rfl ?_ ?_; rotate_left; (intro _w; go_simp; try with_reducible rfl); simp only [Act.put, K.put3])
    (refine K.pl 6 (v := (.int .i64 1)) rfl ?_ ?_; (intro _w; go_simp; rw [HZ.out]; rfl); simp only [Act.put, K.put3])
    (refine K.pl 7 (v := (.int .i64 ((i : Int) + 1))) rfl ?_ ?_; (intro _w; go_simp; skip); simp only [Act.put, K.put3])
    (refine K.pl 8 (v := (.string (sb b))) rfl ?_ ?_; (intro _w; exact exec_from _ _ rfl s (i + 1) rfl rfl (by rw [HL.out]; omega) _ HD.out _w); simp only [Act.put, K.put3])
    (refine K.pl 9 (v := ?_) rfl ?_ ?_; rotate_left; (intro _w; go_simp; try with_reducible rfl); simp only [Act.put, K.put3])
    (refine K.pl 10 (v := ?_) rfl ?_ ?_; rotate_left; (intro _w; go_simp; try with_reducible rfl); simp only [Act.put, K.put3])
    (refine K.pl 11 (v := ?_) rfl ?_ ?_; rotate_left; (intro _w; go_simp; try with_reducible rfl); simp only [Act.put, K.put3])
    clear hold
    refine wpD_done (by kernel_rfl) ?_ _
    go_wp2_with fail
    refine ret_three rfl rfl ⟨rfl, (Fr.refl _ _).drew⟩
theorem cut_any (s : B) (hs : Sz s) (w : World) : Calls Tryd.prog 43 #[.string (sb s), .string (sb [61])] w fun e w' => e = .returned (cutE s) ∧ Fr No w w' := by
  have H := hid (sliteCut s hs w)
  obtain ⟨a, b, c, hy⟩ : ∃ a b c, cutE s = .tuple #[a, b, c] := by
    unfold cutE
    cases cutEq s with
    | none => exact ⟨_, _, _, rfl⟩
    | some x => exact ⟨_, _, _, rfl⟩
  rw [hy] at H ⊢
  clear hy hs
  go_enter Tryd.func43, Tryd.ntmps43
  go_wp2_with fail
  refine H.out.mono ?_
  rintro e w1 ⟨rfl, f1⟩
  have HF := hid f1
  clear f1
  go_wp2_with fail
  refine ret_three rfl rfl ⟨rfl, HF.out⟩
/-- A byte's small letter, as a number. -/
def lw (c : UInt8) : Nat := (c ||| 32).toNat
theorem or_lw (c : UInt8) : bits .or .u8 (c.toNat : Int) 32 = (lw c : Int) := by
  have h : ∀ n : Fin 256, bits .or .u8 (n.val : Int) 32 = ((((UInt8.ofNat n.val) ||| 32).toNat : Nat) : Int) := by decide +kernel
  have := h ⟨c.toNat, UInt8.toNat_lt c⟩
  simpa [lw] using this
theorem lower_any (c : UInt8) (w : World) : Calls Tryd.prog 73 #[.int .u8 (c.toNat : Int)] w fun e w' => e = .returned (.int .u8 (lw c : Int)) ∧ w' = w := by
  have H := hid (or_lw c)
  obtain ⟨x, hx⟩ : ∃ x : Int, (c.toNat : Int) = x := ⟨_, rfl⟩
  rw [hx] at H ⊢
  rw [← H.out]
  clear hx H
  go_enter Tryd.func73, Tryd.ntmps73
  go_wp2
  go_ret
  exact ⟨rfl, rfl⟩
def hexB (c : UInt8) : Bool := (decide (48 ≤ c.toNat ∧ c.toNat ≤ 57) && (hexv c == some (c - 48)) && ((c - 48).toNat == c.toNat - 48)) ||
    (!decide (48 ≤ c.toNat ∧ c.toNat ≤ 57) && decide (97 ≤ lw c ∧ lw c ≤ 102) && (match hexv c with | some d => d.toNat == lw c - 87 | none => false)) ||
    (!decide (48 ≤ c.toNat ∧ c.toNat ≤ 57) && decide (103 ≤ lw c ∧ lw c ≤ 122) && (hexv c == none)) || (!decide (48 ≤ c.toNat ∧ c.toNat ≤ 57) && !decide (97 ≤ lw c ∧ lw c ≤ 122) && (hexv c == none))
/-- A byte is a digit, a letter that is one, or none; its number is known. -/
theorem hex_facts (c : UInt8) : (48 ≤ c.toNat ∧ c.toNat ≤ 57 ∧ hexv c = some (c - 48) ∧ (c - 48).toNat = c.toNat - 48) ∨
    (¬ (48 ≤ c.toNat ∧ c.toNat ≤ 57) ∧ 97 ≤ lw c ∧ lw c ≤ 102 ∧ ∃ d : UInt8, hexv c = some d ∧ d.toNat = lw c - 87) ∨
    (¬ (48 ≤ c.toNat ∧ c.toNat ≤ 57) ∧ 103 ≤ lw c ∧ lw c ≤ 122 ∧ hexv c = none) ∨ (¬ (48 ≤ c.toNat ∧ c.toNat ≤ 57) ∧ ¬ (97 ≤ lw c ∧ lw c ≤ 122) ∧ hexv c = none) := by
  have h1 : hexB c = true := u8_all hexB (by decide +kernel) c
  unfold hexB at h1
  simp only [Bool.or_eq_true, Bool.and_eq_true, decide_eq_true_eq, Bool.not_eq_true', decide_eq_false_iff_not, beq_iff_eq] at h1
  rcases h1 with ((⟨⟨h1, h2⟩, h3⟩ | ⟨⟨h1, h2⟩, h3⟩) | ⟨⟨h1, h2⟩, h3⟩) | ⟨⟨h1, h2⟩, h3⟩
  · exact .inl ⟨h1.1, h1.2, h2, h3⟩
  · right; left
    refine ⟨h1, h2.1, h2.2, ?_⟩
    cases hq : hexv c with
    | none => rw [hq] at h3; cases h3
    | some d => rw [hq] at h3; exact ⟨d, rfl, by simpa using h3⟩
  · exact .inr (.inr (.inl ⟨h1, h2.1, h2.2, h3⟩))
  · exact .inr (.inr (.inr ⟨h1, h2, h3⟩))
theorem not95 {c : UInt8} (h : lw c ≤ 122) : c.toNat ≠ 95 := by
  have := u8_all (fun c => !decide (lw c ≤ 122) || !decide (c.toNat = 95)) (by decide +kernel) c
  simpa [h] using this
theorem hexv_lt {c d : UInt8} (h : hexv c = some d) : d.toNat < 16 := by
  have := u8_all (fun c => match hexv c with | some d => decide (d.toNat < 16) | none => true) (by decide +kernel) c
  rw [h] at this
  simpa using this
/-- The digits' number, a number ahead of them. -/
def hexs : Nat → B → Option Nat
  | n, [] => some n
  | n, c :: r => (hexv c).bind fun d => hexs (16 * n + d.toNat) r
theorem exec_geqI {op : Oper} {a : Act} (x y : Operand) (t u : TypeId) (ho : op.op = .binOp .geq t x y u) (k : IntKind) (m n : Int) (hx : a.eval x = .int k m) (hy : a.eval y = .int k n) (b : Bool) (hb : decide (n ≤ m) = b) (w : World) :
    (execOp a.eval op).run Tryd.prog w = .ok (.value (.bool b)) w := by
  subst hb
  unfold execOp
  simp only [ho, hx, hy]
  simp [go_sem, eqGuard, Result.andThen]
/-- What the inner ParseUint tells. -/
def puR : Option Nat → Value
  | some n => .tuple #[.int .u64 (n : Int), .nilIface]
  | none => .tuple #[.int .u64 0, .iface 104 (.int .i64 2)]
set_option maxRecDepth 100000 in
set_option maxHeartbeats 4000000 in
theorem iparse_any (x y : UInt8) (w : World) : Calls Tryd.prog 69 #[.string (sb [x, y]), .int .i64 16, .int .i64 8] w fun e w' => e = .returned (puR (hexs 0 [x, y])) ∧ Fr No w w' := by
  have hz : (sb [x, y]).size = 2 := rfl
  have hzl : (sb [x, y]).data.toList = [x, y] := rfl
  have hne : ((sb [x, y]).toList == ([] : B)) = false := by rw [ByteArray.toList_eq, hzl]; rfl
  have hnei : (sb [x, y]).toList.isEmpty = false := by rw [ByteArray.toList_eq, hzl]; rfl
  obtain ⟨S, hS⟩ : ∃ S, sb [x, y] = S := ⟨_, rfl⟩
  rw [hS] at hz hzl hne hnei ⊢
  have hszi : (S.size : Int) = 2 := by omega
  have HZL := hid hzl
  clear hzl hS
  obtain ⟨R, hR⟩ : ∃ R, hexs 0 [x, y] = R := ⟨_, rfl⟩
  rw [hR]
  have HR := hid hR
  clear hR
  go_enter Tryd.func69, Tryd.ntmps69
  go_wp2_with (first
    | ((with_reducible refine K.atO (.convert _ 51 _) ?_); refine wpL_bytesOf rfl _ _ _ _ rfl S rfl Tryd.underlying9 Tryd.underlying51 Tryd.underlying5 ?_; intro cp w1 HB1 HF1)
    | fail)
  rw [hz] at *
  clear hz hszi hne hnei
  have HFW := hid HF1.out
  clear HF1
  obtain ⟨g, hg⟩ : ∃ g, w.heap.size = g := ⟨_, rfl⟩
  have hbs := HB1.out
  rw [hg, HZL.out] at hbs
  obtain ⟨a, len, cap, e1, e2, e3, e4⟩ := hbs
  simp only [Value.slice.injEq] at e1
  obtain ⟨rfl, rfl, rfl⟩ := e1
  obtain ⟨g', o', e5, -, hgw, hrg⟩ := e4.resolve_left (by omega)
  simp only [Option.some.injEq, Addr.mk.injEq, and_true] at e5
  obtain ⟨rfl, rfl⟩ := e5
  have HRG := hid hrg
  rw [hg]
  clear e2 e3 e4 hrg HB1 hg
  go_loopw [12, 13, 101] (fun uv nv iv wr => ∃ (i n : Nat), uv = .bool false ∧ nv = .int .u64 n ∧ iv = .int .i64 i ∧ i ≤ 2 ∧ n < 256 ∧ (i = 0 → n = 0) ∧ (i ≤ 1 → n < 16) ∧ Hid (hexs n ([x, y].drop i) = R) ∧ wr = w1) (fun _ _ iv _ => 2 - (intOf iv).toNat)
  case atStart => exact ⟨0, 0, rfl, rfl, rfl, by omega, by omega, by omega, by omega, HR, rfl⟩
  case round =>
    obtain ⟨i, n, rfl, rfl, rfl, hi, hn, hn0', hn2, HX, rfl⟩ := hrel
    by_cases hlt : i < 2
    · obtain ⟨c, hc⟩ : ∃ c, [x, y][i]? = some c := ⟨_, List.getElem?_eq_getElem (by simpa using hlt)⟩
      have hdrop : [x, y].drop i = c :: [x, y].drop (i + 1) := by
        rw [List.drop_eq_getElem_cons (by simpa using hlt)]
        rw [List.getElem?_eq_getElem (by simpa using hlt)] at hc
        rw [Option.some.inj hc]
      have hX := HX.out
      rw [hdrop] at hX
      have HX2 : Hid ((hexv c).bind (fun d => hexs (16 * n + d.toNat) ([x, y].drop (i + 1))) = R) := hid hX
      have hcell : wr.cell? ⟨g, i, none⟩ = some (.int .u8 (c.toNat : Int)) := by
        have := HRG.out i (.int .u8 (c.toNat : Int)) (by unfold u8s; rw [List.getElem?_map, hc]; rfl)
        rwa [Nat.zero_add] at this
      have hn3 : n < 16 := hn2 (by omega)
      have HLo : Hid (∀ w, Calls Tryd.prog 73 #[.int .u8 (c.toNat : Int)] w fun e w' => e = .returned (.int .u8 (lw c : Int)) ∧ w' = w) := hid (fun w => lower_any c w)
      have hf := hex_facts c
      have hb := lt256 c
      have h95 : lw c ≤ 122 → c.toNat ≠ 95 := not95
      have h96 : c.toNat = 95 → lw c = 127 := fun h => by
        obtain rfl : c = 95 := UInt8.toNat_inj.1 h
        rfl
      obtain ⟨xn, hxn⟩ : ∃ xn, c.toNat = xn := ⟨_, rfl⟩
      obtain ⟨ln, hln⟩ : ∃ ln, lw c = ln := ⟨_, rfl⟩
      rw [hxn] at hcell HLo hf hb h95 h96
      rw [hln] at HLo hf h95 h96
      have hlti : (i : Int) < 2 := by omega
      have hi0 : (0 : Int) ≤ i := by omega
      have hni : (n : Int) < 16 := by omega
      have hn0 : (0 : Int) ≤ n := by omega
      have HN0 := hid hn0'
      clear hX hdrop hc hi hn hn2 HX hxn hln hn0'
      rcases hf with ⟨h1, h2, h3, h4⟩ | ⟨h1, h2, h3, d, h4, h5⟩ | ⟨h1, h2, h3, h4⟩ | ⟨h1, h2, h3⟩
      · have hx1 : (48 : Int) ≤ xn := by omega
        have hx2 : (xn : Int) ≤ 57 := by omega
        have hd : (c - 48).toNat < 16 := by omega
        have HX3 : Hid (hexs (16 * n + (xn - 48)) ([x, y].drop (i + 1)) = R) := hid (by have := HX2.out; rw [h3] at this; simp only [Option.bind_some] at this; rwa [h4] at this)
        have HCUT := hid (show decide ((1152921504606846976 : Int) ≤ (n : Int)) = false from decide_eq_false (by omega))
        clear h1 h2 h3 h4 HX2 hd
        go_wp2_with (first | ((with_reducible refine K.atO (.binOp .geq 96 _ _ _) ?_); refine wpL_valZ rfl (.bool false) (by exact exec_geqI _ _ _ _ rfl .u64 (n : Int) 1152921504606846976 rfl rfl _ HCUT.out _) ?_) | fail)
        refine ⟨⟨i + 1, 16 * n + (xn - 48), rfl, ?_, by go_num, by omega, by omega, by omega, fun h => by have := HN0.out; omega, HX3, trivial⟩, by simp [intOf]; omega⟩
        exact congrArg (Value.int .u64) (by omega)
      · have hx1 : (97 : Int) ≤ ln := by omega
        have hx2 : (ln : Int) ≤ 102 := by omega
        have hx3 : (ln : Int) ≤ 122 := by omega
        have hd := hexv_lt h4
        have HX3 : Hid (hexs (16 * n + (ln - 87)) ([x, y].drop (i + 1)) = R) := hid (by have := HX2.out; rw [h4] at this; simp only [Option.bind_some] at this; rwa [h5] at this)
        have HCUT := hid (show decide ((1152921504606846976 : Int) ≤ (n : Int)) = false from decide_eq_false (by omega))
        have hn95 : ¬ (xn : Int) = 95 := by have := h95 (by omega); omega
        have hnd : (xn : Int) < 48 ∨ (48 ≤ (xn : Int) ∧ ¬ (xn : Int) ≤ 57) := by omega
        have hrel2 : ∃ (i_1 n_1 : Nat), Value.int IntKind.u64 ((n : Int) * 16 + ((ln : Int) - 97 + 10)) = Value.int IntKind.u64 n_1 ∧ Value.int IntKind.i64 ((i : Int) + 1) = Value.int IntKind.i64 i_1 ∧ i_1 ≤ 2 ∧ n_1 < 256 ∧ (i_1 = 0 → n_1 = 0) ∧ (i_1 ≤ 1 → n_1 < 16) ∧ Hid (hexs n_1 ([x, y].drop i_1) = R) :=
          ⟨i + 1, 16 * n + (ln - 87), congrArg (Value.int .u64) (by omega), by go_num, by omega, by omega, by omega, fun h => by have := HN0.out; omega, HX3⟩
        have HREL := hid hrel2
        clear h1 h2 h3 h4 h5 HX2 hd hrel2 h95 h96
        rcases hnd with hlo | ⟨hlo, hhi⟩
        all_goals
          go_wp2_with fail
          refine (HLo.out _).mono ?_
          rintro e w2 ⟨rfl, rfl⟩
          go_wp2_with fail
          refine (HLo.out _).mono ?_
          rintro e w3 ⟨rfl, rfl⟩
          go_wp2_with fail
          refine (HLo.out _).mono ?_
          rintro e w4 ⟨rfl, rfl⟩
          go_wp2_with (first | ((with_reducible refine K.atO (.binOp .geq 96 _ _ _) ?_); refine wpL_valZ rfl (.bool false) (by exact exec_geqI _ _ _ _ rfl .u64 (n : Int) 1152921504606846976 rfl rfl _ HCUT.out _) ?_) | fail)
          refine ⟨?_, by simp [intOf]; omega⟩
          obtain ⟨i1, n1, r1, r2, r3, r4, r5, r6, r7⟩ := HREL.out
          exact ⟨i1, n1, rfl, r1, r2, r3, r4, r5, r6, r7, trivial⟩
      · have hx1 : (97 : Int) ≤ ln := by omega
        have hx2 : (103 : Int) ≤ ln := by omega
        have hx3 : (ln : Int) ≤ 122 := by omega
        have HRV : Hid (R = none) := hid (by have := HX2.out; rw [h4] at this; exact this.symm)
        have hn95 : ¬ (xn : Int) = 95 := by have := h95 (by omega); omega
        have hnd : (xn : Int) < 48 ∨ (48 ≤ (xn : Int) ∧ ¬ (xn : Int) ≤ 57) := by omega
        clear h1 h2 h3 h4 HX2 h95 h96
        rcases hnd with hlo | ⟨hlo, hhi⟩
        all_goals
          go_wp2_with fail
          refine (HLo.out _).mono ?_
          rintro e w2 ⟨rfl, rfl⟩
          go_wp2_with fail
          refine (HLo.out _).mono ?_
          rintro e w3 ⟨rfl, rfl⟩
          go_wp2_with fail
          refine (HLo.out _).mono ?_
          rintro e w4 ⟨rfl, rfl⟩
          go_wp2_with fail
          rw [HRV.out]
          go_ret2
          exact ⟨rfl, HFW.out⟩
      · have HRV : Hid (R = none) := hid (by have := HX2.out; rw [h3] at this; exact this.symm)
        have hnd : (xn : Int) < 48 ∨ (48 ≤ (xn : Int) ∧ ¬ (xn : Int) ≤ 57) := by omega
        have hnl : (ln : Int) < 97 ∨ (97 ≤ (ln : Int) ∧ ¬ (ln : Int) ≤ 122) := by omega
        clear h3 HX2 h95
        by_cases h5 : xn = 95
        · obtain rfl := h96 h5
          subst h5
          have HLo2 : Hid (∀ w, Calls Tryd.prog 73 #[.int .u8 95] w fun e w' => e = .returned (.int .u8 127) ∧ w' = w) := HLo
          clear HLo h1 h2 h96 hnd hnl
          go_wp2_with fail
          refine (HLo2.out _).mono ?_
          rintro e w2 ⟨rfl, rfl⟩
          go_wp2_with fail
          refine (HLo2.out _).mono ?_
          rintro e w3 ⟨rfl, rfl⟩
          go_wp2_with fail
          rw [HRV.out]
          go_ret2
          exact ⟨rfl, HFW.out⟩
        · have hn95 : ¬ (xn : Int) = 95 := by omega
          clear h1 h2 h96 h5
          rcases hnd with hlo | ⟨hlo, hhi⟩
          all_goals
            rcases hnl with hl1 | ⟨hl1, hl2⟩
            · go_wp2_with fail
              refine (HLo.out _).mono ?_
              rintro e w2 ⟨rfl, rfl⟩
              go_wp2_with fail
              rw [HRV.out]
              go_ret2
              exact ⟨rfl, HFW.out⟩
            · go_wp2_with fail
              refine (HLo.out _).mono ?_
              rintro e w2 ⟨rfl, rfl⟩
              go_wp2_with fail
              refine (HLo.out _).mono ?_
              rintro e w3 ⟨rfl, rfl⟩
              go_wp2_with fail
              rw [HRV.out]
              go_ret2
              exact ⟨rfl, HFW.out⟩
    · obtain rfl : i = 2 := by omega
      have hR := HX.out
      have HRV : Hid (R = some n) := hid (by rw [← hR]; rfl)
      clear hR HX
      go_wp2_with fail
      rw [HRV.out]
      go_ret2
      exact ⟨rfl, HFW.out⟩
end Go.Proofs.YtnjemnmhkhkpeaaDoor.DN
