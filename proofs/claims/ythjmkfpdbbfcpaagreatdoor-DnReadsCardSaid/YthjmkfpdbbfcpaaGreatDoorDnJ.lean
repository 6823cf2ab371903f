/-
  A name's text and another one's, a sign between. No program.
-/
import Derived.Test.YthjmkfpdbbfcpaaGreatDoorDnK
set_option linter.unusedVariables false
set_option linter.unusedSimpArgs false
namespace Go.Proofs.YthjmkfpdbbfcpaaGreatDoor.DN
set_option maxRecDepth 100000
open Go.Proofs.YthjmkfpdbbfcpaaGreatDoor.BE

theorem esc_app {r r' : B} {d : UInt8} (t : B) (h : esc r = some (d, r')) : esc (r ++ t) = some (d, r' ++ t) := by
  cases r with
  | nil => cases h
  | cons c r =>
    rw [esc_cons] at h
    rw [List.cons_append, esc_cons]
    split at h
    · rename_i hc
      cases h
      rw [if_pos hc]
    · rename_i hc
      rw [if_neg hc]
      cases r with
      | nil => cases h
      | cons e r =>
        simp only [List.cons_append] at h ⊢
        split at h
        · cases h
          rfl
        · cases h
theorem one_app {den r r' : B} {c d : UInt8} {b : Bool} (t : B) (h : one den c r = some (d, b, r')) : one den c (r ++ t) = some (d, b, r' ++ t) := by
  unfold one at h ⊢
  split at h
  · rename_i hc
    rw [if_pos hc]
    cases he : esc r with
    | none => rw [he] at h; cases h
    | some x =>
      obtain ⟨x1, x2⟩ := x
      rw [he] at h
      rw [esc_app t he]
      cases h
      rfl
  · rename_i hc
    rw [if_neg hc]
    split at h
    · cases h
    · rename_i h1
      rw [if_neg h1]
      split at h
      · cases h
      · rename_i h2
        rw [if_neg h2]
        cases h
        rfl
theorem rvF_app : ∀ (f g : Nat) (den : B) (b : Bool) (s v r t : B), rvF f den b s = some (v, r) → (s ++ 44 :: t).length < g → rvF g den b (s ++ 44 :: t) = some (v, r ++ 44 :: t)
  | 0, _, _, _, _, _, _, _, h, _ => by cases h
  | f + 1, 0, _, _, _, _, _, _, _, hg => by omega
  | f + 1, g + 1, den, b, [], v, r, t, h, _ => by
    unfold rvF at h
    cases b
    · cases h
      rw [List.nil_append, rvF_cons, if_pos (.inl rfl)]
      rfl
    · cases h
  | f + 1, g + 1, den, b, c :: s, v, r, t, h, hg => by
    rw [rvF_cons] at h
    rw [List.cons_append, rvF_cons]
    split at h
    · rename_i hc
      rw [if_pos hc]
      cases b
      · cases h; rfl
      · cases h
    · rename_i hc
      rw [if_neg hc]
      cases ho : one den c s with
      | none => rw [ho] at h; cases h
      | some x =>
        obtain ⟨d, bb, r'⟩ := x
        rw [ho] at h
        rw [one_app (44 :: t) ho]
        have h1 := one_len ho
        exact rvF_app f g _ _ _ v r t h (by simp only [List.length_append, List.length_cons] at hg ⊢; omega)
theorem rv_app {s v r : B} (t : B) (h : rv s = some (v, r)) : rv (s ++ 44 :: t) = some (v, r ++ 44 :: t) := rvF_app _ _ _ _ _ _ _ t h (Nat.lt_succ_self _)
theorem cutEq_more : ∀ {s a b : B} (t : B), cutEq s = some (a, b) → cutEq (s ++ t) = some (a, b ++ t)
  | [], _, _, _, h => by cases h
  | c :: r, a, b, t, h => by
    rw [List.cons_append]
    unfold cutEq at h ⊢
    split at h
    · rename_i hc
      cases h
      rw [if_pos hc]
    · rename_i hc
      rw [if_neg hc]
      cases hx : cutEq r with
      | none => rw [hx] at h; cases h
      | some x =>
        obtain ⟨x1, x2⟩ := x
        rw [hx] at h
        rw [cutEq_more t hx]
        cases h
        rfl
theorem readA_app {s : B} {a : Av} {r : B} (t : B) (h : readA s = some (a, r)) : readA (s ++ 44 :: t) = some (a, r ++ 44 :: t) := by
  unfold readA at h ⊢
  cases hc : cutEq s with
  | none => rw [hc] at h; cases h
  | some x =>
    obtain ⟨x1, x2⟩ := x
    rw [hc] at h
    rw [cutEq_more (44 :: t) hc]
    simp only [Option.bind_some] at h ⊢
    cases hv : rv x2 with
    | none => rw [hv] at h; cases h
    | some y =>
      obtain ⟨y1, y2⟩ := y
      rw [hv] at h
      rw [rv_app t hv]
      cases h
      rfl
theorem readF_app : ∀ (f g : Nat) (n : Nm) (st : Rd) (s : B) (x : Nm) (t : B), readF f n st s = some x → (s ++ 44 :: t).length ≤ g → readF (g + 1) n st (s ++ 44 :: t) = readF (t.length + 1) x [] t
  | 0, _, _, _, _, _, _, h, _ => by cases h
  | f + 1, g, n, st, s, x, t, h, hg => by
    rw [readF_succ] at h ⊢
    cases hA : readA s with
    | none => rw [hA] at h; cases h
    | some y =>
      obtain ⟨a, r⟩ := y
      rw [hA] at h
      rw [readA_app t hA]
      obtain ⟨hl, -⟩ := readA_len hA
      simp only [Option.bind_some] at h ⊢
      simp only [List.length_append, List.length_cons] at hg
      obtain ⟨g', rfl⟩ : ∃ g', g = g' + 1 := ⟨g - 1, by omega⟩
      cases r with
      | nil =>
        cases h
        simp only [List.nil_append, if_true]
        exact readF_more g' t.length _ _ _ (by omega) (Nat.le_refl _)
      | cons c r =>
        simp only [List.cons_append, List.length_cons] at h hl ⊢
        split at h
        · rename_i hc
          rw [if_pos hc]
          exact readF_app f g' _ _ r x t h (by simp only [List.length_append, List.length_cons]; omega)
        · rename_i hc
          rw [if_neg hc]
          exact readF_app f g' _ _ r x t h (by simp only [List.length_append, List.length_cons]; omega)
theorem readF_acc : ∀ (f : Nat) (m n : Nm) (st : Rd) (s : B), readF f (m ++ n) st s = (readF f n st s).map (m ++ ·)
  | 0, _, _, _, _ => rfl
  | f + 1, m, n, st, s => by
    rw [readF_succ, readF_succ]
    cases readA s with
    | none => rfl
    | some x =>
      obtain ⟨a, r⟩ := x
      simp only [Option.bind_some]
      cases r with
      | nil => simp
      | cons c r =>
        simp only
        split
        · rw [List.append_assoc, readF_acc f m]
        · rw [readF_acc f m]
theorem parse_ok {s : B} {x : Nm} (h : parse s = (x, 0)) : s.length ≤ 400 ∧ read s = some x ∧ built x = true := by
  unfold parse at h
  split at h
  · cases h
  · rename_i hl
    cases hr : read s with
    | none => rw [hr] at h; cases h
    | some n =>
      rw [hr] at h
      simp only at h
      split at h
      · rename_i hb
        cases h
        exact ⟨by omega, rfl, hb⟩
      · cases h
theorem built_app {x y : Nm} (hx : built x = true) (hy : built y = true) (h : x.length + y.length ≤ 16) : built (x ++ y) = true := by
  simp only [built, Bool.and_eq_true, decide_eq_true_eq, List.all_append, List.length_append] at *
  exact ⟨h, hx.2, hy.2⟩
theorem parse_join {a b : B} {x y : Nm} (ha : parse a = (x, 0)) (hb : parse b = (y, 0)) (hx : x ≠ []) (hy : y ≠ []) (hl : a.length + b.length ≤ 399) (hn : x.length + y.length ≤ 16) : parse (a ++ 44 :: b) = (x ++ y, 0) := by
  obtain ⟨-, ra, ba⟩ := parse_ok ha
  obtain ⟨-, rb, bb⟩ := parse_ok hb
  have hb0 : b ≠ [] := by intro e; subst e; unfold read at rb; rw [if_pos rfl] at rb; cases rb; exact hy rfl
  have ha0 : a ≠ [] := by intro e; subst e; unfold read at ra; rw [if_pos rfl] at ra; cases ra; exact hx rfl
  have hr : read (a ++ 44 :: b) = some (x ++ y) := by
    unfold read at ra rb ⊢
    rw [if_neg ha0] at ra
    rw [if_neg hb0] at rb
    rw [if_neg (by simp), readF_app _ _ _ _ _ x b ra (Nat.le_refl _)]
    have := readF_acc (b.length + 1) x [] [] b
    rw [List.append_nil] at this
    rw [this, rb]
    rfl
  unfold parse
  rw [if_neg (by simp only [List.length_append, List.length_cons]; omega), hr]
  simp [built_app ba bb hn]
theorem under_app (x y : Nm) : under (x ++ y) y = true := by
  unfold under
  simp
end Go.Proofs.YthjmkfpdbbfcpaaGreatDoor.DN
