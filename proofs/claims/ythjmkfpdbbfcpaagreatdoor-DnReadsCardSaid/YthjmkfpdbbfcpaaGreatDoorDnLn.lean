/-
  What is read is no longer than the text; a name that may be is short.
-/
import Derived.Test.YthjmkfpdbbfcpaaGreatDoorDnJ
import Derived.Test.YthjmkfpdbbfcpaaGreatDoorDnM
set_option linter.unusedVariables false
set_option linter.unusedSimpArgs false
namespace Go.Proofs.YthjmkfpdbbfcpaaGreatDoor.DN
set_option maxRecDepth 100000
open Go.RowKit K Go.Proofs.YthjmkfpdbbfcpaaGreatDoor.BE

theorem readF_b {K : Nat} : ∀ (f : Nat) (n : Nm) (st : Rd) (s : B) (x : Nm), readF f n st s = some x → s.length ≤ K → (∀ r ∈ n, ∀ a ∈ r, AvB K a) → (∀ a ∈ st, AvB K a) → ∀ r ∈ x, ∀ a ∈ r, AvB K a
  | 0, _, _, _, _, h, _, _, _ => by cases h
  | f + 1, n, st, s, x, h, hs, hn, hst => by
    unfold readF at h
    cases hA : readA s with
    | none => rw [hA] at h; cases h
    | some y =>
      obtain ⟨a, r⟩ := y
      rw [hA] at h
      obtain ⟨h1, h2, h3, -⟩ := readA_len hA
      have ha : AvB K a := ⟨by omega, by omega⟩
      have hst' : ∀ q ∈ st ++ [a], AvB K q := fun q hq => by
        rcases List.mem_append.1 hq with hq | hq
        · exact hst q hq
        · rw [List.mem_singleton.1 hq]; exact ha
      have hn' : ∀ r ∈ n ++ [st ++ [a]], ∀ q ∈ r, AvB K q := fun r hr => by
        rcases List.mem_append.1 hr with hr | hr
        · exact hn r hr
        · rw [List.mem_singleton.1 hr]; exact hst'
      simp only [Option.bind_some] at h
      cases r with
      | nil => cases h; exact hn'
      | cons c r =>
        simp only [List.length_cons] at h1
        simp only at h
        split at h
        · exact readF_b f _ _ _ _ h (by omega) hn' (fun _ hq => by cases hq)
        · exact readF_b f _ _ _ _ h (by omega) hn hst'
theorem parse_b {s : B} {x : Nm} (h : parse s = (x, 0)) : NmB 1048576 x ∧ Short x ∧ x.length ≤ 16 ∧ ∀ r ∈ x, r.length ≤ 4 := by
  obtain ⟨hl, hr, hb⟩ := parse_ok h
  have hb2 := hb
  simp only [built, Bool.and_eq_true, decide_eq_true_eq] at hb2
  have h4 : ∀ r ∈ x, 1 ≤ r.length ∧ r.length ≤ 4 := fun r hr => by
    obtain ⟨h1, h2, -⟩ := built_step hb r hr
    exact ⟨List.length_pos_iff.2 h1, h2⟩
  have hav : ∀ r ∈ x, ∀ a ∈ r, AvB 400 a := by
    unfold read at hr
    split at hr
    · cases hr; intro r hr; cases hr
    · exact readF_b _ _ _ _ _ hr hl (fun _ h => by cases h) (fun _ h => by cases h)
  refine ⟨⟨by omega, fun r hr => ⟨by have := (h4 r hr).2; omega, fun a ha => ⟨?_, ?_⟩⟩⟩, fun r hr => ⟨(h4 r hr).1, by have := (h4 r hr).2; omega⟩, hb2.1, fun r hr => (h4 r hr).2⟩
  · have := (hav r hr a ha).1; omega
  · have := (hav r hr a ha).2; omega
end Go.Proofs.YthjmkfpdbbfcpaaGreatDoor.DN
