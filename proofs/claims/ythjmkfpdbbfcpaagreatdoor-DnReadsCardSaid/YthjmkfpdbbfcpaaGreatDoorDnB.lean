/-
  A name's text is read as that name; texts side by side. No program.
-/
import Derived.Test.YthjmkfpdbbfcpaaGreatDoorDnD
set_option linter.unusedVariables false
set_option linter.unusedSimpArgs false
namespace Go.Proofs.YthjmkfpdbbfcpaaGreatDoor.DN
set_option maxRecDepth 100000
open Go.Proofs.YthjmkfpdbbfcpaaGreatDoor.BE

theorem esc_cons (c : UInt8) (r : B) : esc (c :: r) = if sign c || c == 35 || c == 61 || c == 32 then some (c, r) else
    match r with
    | [] => none
    | d :: r' => match hexv c, hexv d with
      | some x, some y => some (16 * x + y, r')
      | _, _ => none := rfl
/-- A property of all bytes is looked through. -/
theorem u8_all (p : UInt8 → Bool) (h : ∀ n : Fin 256, p (UInt8.ofNat n.val) = true) (c : UInt8) : p c = true := by
  have := h ⟨c.toNat, UInt8.toNat_lt c⟩
  simpa using this
theorem ctl_text (c : UInt8) (h : c < 32 ∨ c = 127) : (sign (dgt (c / 16)) || dgt (c / 16) == 35 || dgt (c / 16) == 61 || dgt (c / 16) == 32) = false ∧ hexv (dgt (c / 16)) = some (c / 16) ∧ hexv (dgt (c % 16)) = some (c % 16) ∧ 16 * (c / 16) + c % 16 = c := by
  have := u8_all (fun c => !(decide (c < 32 ∨ c = 127)) || (!(sign (dgt (c / 16)) || dgt (c / 16) == 35 || dgt (c / 16) == 61 || dgt (c / 16) == 32) && (hexv (dgt (c / 16)) == some (c / 16)) && (hexv (dgt (c % 16)) == some (c % 16)) && (16 * (c / 16) + c % 16 == c))) (by decide +kernel) c
  simp only [h, decide_true, Bool.not_true, Bool.false_or, Bool.and_eq_true, beq_iff_eq, Bool.not_eq_true'] at this
  exact ⟨this.1.1.1, this.1.1.2, this.1.2, this.2⟩
theorem rvF_cons (f : Nat) (den : B) (blank : Bool) (c : UInt8) (r : B) : rvF (f + 1) den blank (c :: r) = if c = 44 ∨ c = 43 then (if blank then none else some (den, c :: r)) else
    match one den c r with
    | none => none
    | some x => rvF f (den ++ [x.1]) x.2.1 x.2.2 := rfl
theorem readF_succ (f : Nat) (n : Nm) (step : Rd) (s : B) : readF (f + 1) n step s = (readA s).bind fun x => match x.2 with
    | [] => some (n ++ [step ++ [x.1]])
    | c :: r => if c = 44 then readF f (n ++ [step ++ [x.1]]) [] r else readF f n (step ++ [x.1]) r := rfl
/-- What a byte's text ends: it is read as that byte. -/
theorem rvF_byte (f : Nat) (den : B) (blank : Bool) (c : UInt8) (last : Bool) (t : B) :
    ∃ bb, rvF (f + 1) den blank (byT den.isEmpty last c ++ t) = rvF f (den ++ [c]) bb t ∧ (last = true → bb = false) := by
  unfold byT
  by_cases h1 : c < 32 ∨ c = 127
  · rw [if_pos h1]
    obtain ⟨h2, h3, h4, h5⟩ := ctl_text c h1
    refine ⟨false, ?_, fun _ => rfl⟩
    show rvF (f + 1) den blank (92 :: (dgt (c / 16) :: dgt (c % 16) :: t)) = _
    rw [rvF_cons]
    rw [if_neg (by decide)]
    have ho : one den 92 (dgt (c / 16) :: dgt (c % 16) :: t) = some (c, false, t) := by
      unfold one
      rw [if_pos rfl]
      have he : esc (dgt (c / 16) :: dgt (c % 16) :: t) = some (c, t) := by
        show (if (sign (dgt (c / 16)) || dgt (c / 16) == 35 || dgt (c / 16) == 61 || dgt (c / 16) == 32) = true then _ else _) = _
        rw [h2, if_neg (by decide)]
        simp only [h3, h4, h5]
      rw [he]
      rfl
    rw [ho]
  · rw [if_neg h1]
    cases h2 : (sign c || (c == 35 && den.isEmpty) || (c == 32 && (den.isEmpty || last))) with
    | true =>
      refine ⟨false, ?_, fun _ => rfl⟩
      rw [if_pos rfl]
      show rvF (f + 1) den blank (92 :: (c :: t)) = _
      rw [rvF_cons]
      rw [if_neg (by decide)]
      have he : (sign c || c == 35 || c == 61 || c == 32) = true := by
        revert h2
        cases sign c <;> cases (c == 35) <;> cases (c == 32) <;> simp
      have ho : one den 92 (c :: t) = some (c, false, t) := by
        unfold one
        rw [if_pos rfl]
        have hx : esc (c :: t) = some (c, t) := by
          show (if (sign c || c == 35 || c == 61 || c == 32) = true then _ else _) = _
          rw [he, if_pos rfl]
        rw [hx]
        rfl
      rw [ho]
    | false =>
      rw [if_neg (by decide)]
      have hs : sign c = false := by revert h2; cases sign c <;> simp
      refine ⟨c == 32, ?_, ?_⟩
      · show rvF (f + 1) den blank (c :: t) = _
        have h6 := u8_all (fun c => !(!sign c && !(decide (c < 32 ∨ c = 127))) || (!(decide (c = 44 ∨ c = 43)) && !(decide (c = 92)) && !(c == 34 || c == 59 || c == 60 || c == 62 || c == 0))) (by decide +kernel) c
        simp only [hs, h1, decide_false, Bool.not_false, Bool.and_self, Bool.not_true, Bool.false_or, Bool.and_eq_true, Bool.not_eq_true', decide_eq_false_iff_not] at h6
        obtain ⟨⟨h7, h8⟩, h9⟩ := h6
        rw [rvF_cons]
        rw [if_neg h7]
        have ho : one den c t = some (c, c == 32, t) := by
          unfold one
          rw [if_neg h8, h9]
          have h10 : ((c == 35 || c == 32) && den.isEmpty) = false := by
            revert h2
            cases (c == 35) <;> cases (c == 32) <;> cases den.isEmpty <;> simp
          rw [h10]
          rfl
        rw [ho]
      · intro hl
        subst hl
        revert h2
        cases (c == 32) <;> simp
theorem byT_len (a b : Bool) (c : UInt8) : 1 ≤ (byT a b c).length ∧ (byT a b c).length ≤ 3 := by
  unfold byT
  split
  · simp
  · split <;> simp
theorem valFrom_len : ∀ (v : B) (a : Bool), v.length ≤ (valFrom a v).length ∧ (valFrom a v).length ≤ 3 * v.length
  | [], a => by simp [valFrom]
  | c :: r, a => by
    have h1 := valFrom_len r false
    have h2 := byT_len a r.isEmpty c
    simp only [valFrom, List.length_append, List.length_cons]
    omega
/-- A value's text is read as that value, whatever stands behind it. -/
theorem rvF_val : ∀ (v den : B) (blank : Bool) (f : Nat) (t : B), (v = [] → blank = false) → (t = [] ∨ ∃ c r, t = c :: r ∧ (c = 44 ∨ c = 43)) → v.length < f → rvF f den blank (valFrom den.isEmpty v ++ t) = some (den ++ v, t)
  | [], den, blank, f + 1, t, hb, ht, _ => by
    obtain rfl := hb rfl
    rcases ht with rfl | ⟨c, r, rfl, hc⟩
    · simp [valFrom, rvF]
    · simp only [valFrom, List.nil_append, List.append_nil]
      rw [rvF_cons]
      rw [if_pos hc]
      rfl
  | c :: v, den, blank, f + 1, t, _, ht, hf => by
    simp only [valFrom, List.append_assoc]
    obtain ⟨bb, h1, h2⟩ := rvF_byte f den blank c v.isEmpty (valFrom false v ++ t)
    rw [h1]
    have h3 := rvF_val v (den ++ [c]) bb f t (fun hv => h2 (by rw [hv]; rfl)) ht (by simp at hf; omega)
    have h4 : (den ++ [c]).isEmpty = false := by cases den <;> rfl
    rw [h4] at h3
    rw [h3]
    simp
theorem rv_val (v t : B) (ht : t = [] ∨ ∃ c r, t = c :: r ∧ (c = 44 ∨ c = 43)) : rv (valT v ++ t) = some (v, t) := by
  have h := rvF_val v [] false ((valT v ++ t).length + 1) t (fun _ => rfl) ht (by have := (valFrom_len v true).1; rw [List.length_append]; show _ < (valFrom true v).length + _ + 1; omega)
  exact h
theorem cutEq_app : ∀ (t r : B), (∀ c ∈ t, c ≠ 61) → cutEq (t ++ 61 :: r) = some (t, r)
  | [], r, _ => by simp [cutEq]
  | c :: t, r, h => by
    have h1 := cutEq_app t r (fun c hc => h c (by simp [hc]))
    have h2 : c ≠ 61 := h c (by simp)
    simp [cutEq, h2, h1]
theorem readA_ava (a : Av) (t : B) (ha : ∀ c ∈ a.1, c ≠ 61) (ht : t = [] ∨ ∃ c r, t = c :: r ∧ (c = 44 ∨ c = 43)) : readA (avaT a ++ t) = some (a, t) := by
  unfold readA avaT
  rw [List.append_assoc, List.append_assoc, List.singleton_append, cutEq_app a.1 _ ha]
  simp only [Option.bind_some]
  rw [rv_val a.2 t ht]
  rfl
theorem avaT_len (a : Av) : 1 ≤ (avaT a).length := by simp [avaT]; omega
/-- A name whose types hold no = . -/
def noEq (r : Rd) : Prop := ∀ a ∈ r, ∀ c ∈ a.1, c ≠ 61
/-- A step's text is read. -/
theorem readF_step : ∀ (r : Rd) (n : Nm) (st : Rd) (t : B) (f : Nat), r ≠ [] → noEq r → (t = [] ∨ ∃ t', t = 44 :: t') → (stepT r ++ t).length ≤ f →
    readF (f + 1) n st (stepT r ++ t) = match t with | [] => some (n ++ [st ++ r]) | _ :: t' => readF f (n ++ [st ++ r]) [] t'
  | [], _, _, _, _, h, _, _, _ => absurd rfl h
  | [a], n, st, t, f, _, hq, ht, hf => by
    rw [readF_succ]
    rw [show stepT [a] = avaT a from rfl, readA_ava a t (hq a (by simp)) (ht.imp id fun ⟨t', e⟩ => ⟨44, t', e, .inl rfl⟩)]
    rcases ht with rfl | ⟨t', rfl⟩
    · rfl
    · rfl
  | a :: b :: r, n, st, t, f, _, hq, ht, hf => by
    have e : stepT (a :: b :: r) = avaT a ++ 43 :: stepT (b :: r) := by simp [stepT, joinB]
    rw [e] at hf ⊢
    have hA := readA_ava a (43 :: (stepT (b :: r) ++ t)) (hq a (by simp)) (.inr ⟨43, _, rfl, .inr rfl⟩)
    have h1 := avaT_len a
    simp only [List.length_append, List.length_cons] at hf
    obtain ⟨f', rfl⟩ : ∃ f', f = f' + 1 := ⟨f - 1, by omega⟩
    have ih := readF_step (b :: r) n (st ++ [a]) t f' (by simp) (fun x hx => hq x (by simp [hx])) ht (by simp only [List.length_append]; omega)
    rw [readF_succ]
    rw [List.append_assoc, List.cons_append, hA]
    simp only [Option.bind_some]
    rw [if_neg (by decide), ih]
    rcases ht with rfl | ⟨t', rfl⟩
    · simp
    · simp only [List.append_assoc, List.cons_append, List.nil_append]
      obtain ⟨f'', rfl⟩ : ∃ f'', f' = f'' + 1 := ⟨f' - 1, by simp only [List.length_cons] at hf; omega⟩
      exact readF_more f'' (f'' + 1) _ _ _ (by simp only [List.length_cons] at hf; omega) (by simp only [List.length_cons] at hf; omega)
/-- A whole name's text is read. -/
theorem readF_name : ∀ (m : Nm) (n : Nm) (f : Nat), m ≠ [] → (∀ r ∈ m, r ≠ [] ∧ noEq r) → (printT m).length ≤ f → readF (f + 1) n [] (printT m) = some (n ++ m)
  | [], _, _, h, _, _ => absurd rfl h
  | [r], n, f, _, hr, hf => by
    have h := readF_step r n [] [] f (hr r (by simp)).1 (hr r (by simp)).2 (.inl rfl) (by rw [List.append_nil]; exact hf)
    rw [List.append_nil] at h
    rw [show printT [r] = stepT r from rfl, h]
    simp
  | r :: s :: m, n, f, _, hr, hf => by
    have e : printT (r :: s :: m) = stepT r ++ 44 :: printT (s :: m) := by simp [printT, joinB]
    rw [e] at hf ⊢
    simp only [List.length_append, List.length_cons] at hf
    obtain ⟨f', rfl⟩ : ∃ f', f = f' + 1 := ⟨f - 1, by omega⟩
    rw [readF_step r n [] (44 :: printT (s :: m)) (f' + 1) (hr r (by simp)).1 (hr r (by simp)).2 (.inr ⟨_, rfl⟩) (by simp only [List.length_append, List.length_cons]; omega)]
    simp only [List.nil_append]
    rw [readF_name (s :: m) (n ++ [r]) f' (by simp) (fun x hx => hr x (by simp [hx])) (by omega)]
    simp
theorem typ_noEq {t : B} (h : typ t = true) : ∀ c ∈ t, c ≠ 61 ∧ c ≠ 0 := by
  have hk := fun (b : Bool) (c : UInt8) => u8_all (fun c => !(okAt b c) || (!(c == 61) && !(c == 0))) (by cases b <;> decide +kernel) c
  have hk' : ∀ (b : Bool) (c : UInt8), okAt b c = true → c ≠ 61 ∧ c ≠ 0 := fun b c hc => by have := hk b c; simpa [hc] using this
  cases t with
  | nil => intro c hc; cases hc
  | cons x r =>
    simp only [typ, Bool.and_eq_true, List.all_eq_true] at h
    intro c hc
    rcases List.mem_cons.1 hc with rfl | hc
    · exact hk' _ _ h.2.1
    · exact hk' _ _ (h.2.2 c hc)
theorem typs_mem : ∀ {r seen : Rd}, typs seen r = true → ∀ a ∈ r, typ a.1 = true
  | [], _, _, _, h => by cases h
  | b :: r, seen, h, a, ha => by
    simp only [typs, Bool.and_eq_true] at h
    rcases List.mem_cons.1 ha with rfl | ha
    · exact h.1.1
    · exact typs_mem h.2 a ha
theorem built_step {n : Nm} (h : built n = true) : ∀ r ∈ n, r ≠ [] ∧ r.length ≤ 4 ∧ (∀ a ∈ r, typ a.1 = true) ∧ noEq r := by
  intro r hr
  simp only [built, Bool.and_eq_true, List.all_eq_true] at h
  have h1 := h.2 r hr
  simp only [okStep, Bool.and_eq_true, decide_eq_true_eq] at h1
  have h2 := typs_mem h1.2
  exact ⟨fun e => by subst e; simp at h1, h1.1.2, h2, fun a ha c hc => (typ_noEq (h2 a ha) c hc).1⟩
theorem joinB_nil {sep : B} {L : List B} (h : joinB sep L = []) : L = [] ∨ L = [[]] ∨ sep = [] := by
  match L, h with
  | [], _ => exact .inl rfl
  | [a], h => exact .inr (.inl (by rw [show joinB sep [a] = a from rfl] at h; rw [h]))
  | a :: b :: r, h =>
    simp only [joinB, List.append_eq_nil_iff] at h
    exact .inr (.inr h.1.2)
theorem stepT_ne {r : Rd} (h : r ≠ []) : stepT r ≠ [] := by
  intro e
  rcases joinB_nil e with h1 | h1 | h1
  · exact h (by simpa using h1)
  · obtain ⟨a, r', rfl⟩ := List.exists_cons_of_ne_nil h
    simp only [List.map_cons, List.cons.injEq] at h1
    have := avaT_len a
    rw [h1.1] at this
    simp at this
  · cases h1
theorem read_print {n : Nm} (h : ∀ r ∈ n, r ≠ [] ∧ noEq r) : read (printT n) = some n := by
  unfold read
  cases n with
  | nil => rfl
  | cons r m =>
    have hne : printT (r :: m) ≠ [] := by
      intro e
      rcases joinB_nil e with h1 | h1 | h1
      · cases h1
      · simp only [List.map_cons, List.cons.injEq] at h1
        exact stepT_ne (h r (by simp)).1 h1.1
      · cases h1
    rw [if_neg hne]
    rw [readF_name (r :: m) [] _ (by simp) h (Nat.le_refl _)]
    rfl
theorem parse_print {n : Nm} (h : right n = true) : parse (printT n) = (n, 0) := by
  simp only [right, Bool.and_eq_true, decide_eq_true_eq] at h
  unfold parse
  rw [if_neg (by omega), read_print (fun r hr => ⟨(built_step h.1 r hr).1, (built_step h.1 r hr).2.2.2⟩)]
  simp [h.1]
end Go.Proofs.YthjmkfpdbbfcpaaGreatDoor.DN
