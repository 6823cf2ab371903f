/-
  What reading tells of errors; the children that are read one by one. No program.
-/
import Derived.Test.YthnahoodgkeaiaaBeD
set_option linter.unusedVariables false
set_option linter.unusedSimpArgs false
namespace Go.Proofs.Ythnahoodgkeaiaa.BE
set_option maxRecDepth 100000

theorem hd_err {s : B} {e : Nat} (h : hdS s = .error e) : e ≠ 0 := by
  match s, h with
  | [], h => cases h; decide
  | [b], h =>
    simp only [hdS] at h
    split at h <;> (cases h; decide)
  | b :: l :: q, h =>
    simp only [hdS] at h
    split at h
    · cases h; decide
    · split at h
      · cases h
      · split at h
        · split at h
          · cases h; decide
          · split at h <;> cases h
            decide
        · split at h
          · split at h
            · split at h
              · cases h; decide
              · split at h <;> cases h
                decide
            · cases h; decide
          · cases h; decide
theorem kids_err {f : B → Except Nat (Nd × Nat)} (hf : ∀ s e, f s = .error e → e ≠ 0) (hu : ∀ s n u, f s = .ok (n, u) → 2 ≤ u ∧ u ≤ s.length) : ∀ (k : Nat) (s : B) (e : Nat), s.length ≤ k → kidsG f k s = .error e → e ≠ 0
  | 0, s, e, hs, h => by
    have : s = [] := List.eq_nil_of_length_eq_zero (by omega)
    subst this
    cases h
  | k + 1, s, e, hs, h => by
    unfold kidsG at h
    split at h
    · cases h
    · split at h
      · rename_i e' he
        cases h
        exact hf _ _ he
      · rename_i n u hr
        obtain ⟨h2, h3⟩ := hu _ _ _ hr
        split at h
        · rename_i e' hk
          cases h
          exact kids_err hf hu k _ _ (by rw [List.length_drop]; omega) hk
        · cases h
theorem rd_err : ∀ (m : Nat) (s : B) (e : Nat), rd m s = .error e → e ≠ 0
  | 0, s, e, h => by cases h; decide
  | m + 1, s, e, h => by
    unfold rd at h
    split at h
    · rename_i e' he
      cases h
      exact hd_err he
    · split at h
      · cases h; decide
      · split at h
        · split at h
          · rename_i e' hk
            have := kids_err (rd_err m) (fun s n u hr => ⟨(rd_inv m s n u hr).2.2.2.2.1, (rd_inv m s n u hr).2.2.2.2.2⟩) _ _ _ (Nat.le_refl _) hk
            cases h
            split
            · decide
            · exact this
          · cases h
        · cases h
/-- Some ahead of those that come. -/
def mapK (acc : List Nd) : Except Nat (List Nd) → Except Nat (List Nd)
  | .ok ns => .ok (acc ++ ns)
  | .error e => .error e
theorem mapK_nil (r : Except Nat (List Nd)) : mapK [] r = r := by cases r <;> rfl
theorem mapK_done (acc : List Nd) (f : B → Except Nat (Nd × Nat)) (k : Nat) : mapK acc (kidsG f k []) = .ok acc := by
  cases k <;> simp [kidsG, mapK]
theorem mapK_err (acc : List Nd) (f : B → Except Nat (Nd × Nat)) {k : Nat} {r : B} {e : Nat} (hr : r ≠ []) (hk : r.length ≤ k) (h : f r = .error e) : mapK acc (kidsG f k r) = .error e := by
  cases k with
  | zero => exact absurd (List.eq_nil_of_length_eq_zero (by omega)) hr
  | succ k =>
    unfold kidsG
    rw [if_neg hr, h]
    rfl
theorem mapK_step (acc : List Nd) (f : B → Except Nat (Nd × Nat)) {k : Nat} {r : B} {n : Nd} {u : Nat} (hr : r ≠ []) (hk : r.length ≤ k) (h : f r = .ok (n, u)) : ∃ j, k = j + 1 ∧ mapK acc (kidsG f k r) = mapK (acc ++ [n]) (kidsG f j (r.drop u)) := by
  cases k with
  | zero => exact absurd (List.eq_nil_of_length_eq_zero (by omega)) hr
  | succ k =>
    refine ⟨k, rfl, ?_⟩
    conv => lhs; unfold kidsG
    rw [if_neg hr, h]
    simp only
    cases hx : kidsG f k (r.drop u) with
    | error e => rfl
    | ok ns => simp [mapK]
end Go.Proofs.Ythnahoodgkeaiaa.BE
