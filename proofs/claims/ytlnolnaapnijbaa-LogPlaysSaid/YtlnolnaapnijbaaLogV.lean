/-
  The disks' contracts, over U: the program's (Dk) and the document's (Rk).
-/
import Derived.Test.YtlnolnaapnijbaaRefF
import Derived.Test.YtlnolnaapnijbaaLogU
namespace Go.Proofs.Ytlnolnaapnijbaa.D
set_option maxRecDepth 100000
open Go.RowKit K

theorem write_any {w : World} {bd : Nat} {D : Nat → Prop} {s : St} (n : Int) (v : Value) (bs : List Int) (E : Nat → Prop) (hv : BytesIn w E v bs) (hE : ∀ k, E k → ¬ D k) (h : At w bd D s) (hp : s.P.length < 1000000) :
    Calls Try.prog 36 #[.pointer (some ⟨bd, 0, none⟩), .int .i64 n, v] w fun e w' => e = .returned (.int .i64 (s.write n bs).1) ∧ ∃ D', At w' bd D' (s.write n bs).2 ∧ Fr D w w' ∧ Grows w D D' := by
  by_cases hno : s.up = false ∨ ¬ (0 ≤ n ∧ n < s.L.length) ∨ 64 < bs.length
  · refine (write_no n v bs E hv h hno).mono ?_
    rintro e w' ⟨rfl, h2, rfl⟩
    exact ⟨rfl, D, by rw [h2]; exact h, Fr.refl _ _, Grows.refl _ _⟩
  · have hu : s.up = true := by cases hu : s.up with | true => rfl | false => exact absurd (.inl hu) hno
    have hn : 0 ≤ n ∧ n < s.L.length := Decidable.byContradiction fun hc => hno (.inr (.inl hc))
    have h64 : bs.length ≤ 64 := Nat.le_of_not_lt fun hc => hno (.inr (.inr hc))
    cases hs : s.spend.1 with
    | false =>
      refine (write_out n v bs E hv h hu hn h64 hs).mono ?_
      rintro e w' ⟨rfl, h2, h3⟩
      exact ⟨rfl, D, h2, h3, Grows.refl _ _⟩
    | true =>
      obtain ⟨i, rfl⟩ := Int.eq_ofNat_of_zero_le hn.1
      exact write_yes i v bs E hv hE h hu (by omega) h64 hs hp
theorem rwrite_any {w : World} {bd : Nat} {D : Nat → Prop} {s : St} (n : Int) (v : Value) (bs : List Int) (E : Nat → Prop) (hv : BytesIn w E v bs) (hE : ∀ k, E k → ¬ D k) (h : Rf w bd D s) (hp : s.P.length < 1000000) :
    Calls Try.prog 37 #[.pointer (some ⟨bd, 0, none⟩), .int .i64 n, v] w fun e w' => e = .returned (.int .i64 (s.write n bs).1) ∧ ∃ D', Rf w' bd D' (s.write n bs).2 ∧ Fr D w w' ∧ Grows w D D' := by
  by_cases hno : s.up = false ∨ ¬ (0 ≤ n ∧ n < s.L.length) ∨ 64 < bs.length
  · refine (rwrite_no n v bs E hv h hno).mono ?_
    rintro e w' ⟨rfl, h2, rfl⟩
    exact ⟨rfl, D, by rw [h2]; exact h, Fr.refl _ _, Grows.refl _ _⟩
  · have hu : s.up = true := by cases hu : s.up with | true => rfl | false => exact absurd (.inl hu) hno
    have hn : 0 ≤ n ∧ n < s.L.length := Decidable.byContradiction fun hc => hno (.inr (.inl hc))
    have h64 : bs.length ≤ 64 := Nat.le_of_not_lt fun hc => hno (.inr (.inr hc))
    cases hs : s.spend.1 with
    | false =>
      refine (rwrite_out n v bs E hv h hu hn h64 hs).mono ?_
      rintro e w' ⟨rfl, h2, h3⟩
      exact ⟨rfl, D, h2, h3, Grows.refl _ _⟩
    | true =>
      obtain ⟨i, rfl⟩ := Int.eq_ofNat_of_zero_le hn.1
      exact rwrite_yes i v bs E hv hE h hu (by omega) h64 hs hp

end Go.Proofs.Ytlnolnaapnijbaa.D
namespace Go.Proofs.Ytlnolnaapnijbaa.L
open Go.RowKit K

/-- The program's disk, as U. -/
abbrev Dk (w : World) (bd : Nat) (Z : Nat → Prop) (u : U) : Prop := D.At w bd Z u.st
/-- The document's disk, as U. -/
abbrev Rk (w : World) (bd : Nat) (Z : Nat → Prop) (u : U) : Prop := D.Rf w bd Z u.st
section
variable {w : World} {bd : Nat} {Z : Nat → Prop} {u : U}
theorem dwrite_any (n : Int) (v : Value) (b : List UInt8) (E : Nat → Prop) (hv : K.BytesIn w E v b) (hE : ∀ k, E k → ¬ Z k) (h : Dk w bd Z u) (hp : u.P.length < 1000000) :
    Calls Try.prog 36 #[.pointer (some ⟨bd, 0, none⟩), .int .i64 n, v] w fun e w' => e = .returned (.int .i64 (u.write n b).1) ∧ ∃ Z', Dk w' bd Z' (u.write n b).2 ∧ Fr Z w w' ∧ Grows w Z Z' := by
  have := D.write_any n v (ints b) E (bytes_ints hv) hE h (by simpa [U.st] using hp)
  rwa [st_write] at this
theorem rwrite_any (n : Int) (v : Value) (b : List UInt8) (E : Nat → Prop) (hv : K.BytesIn w E v b) (hE : ∀ k, E k → ¬ Z k) (h : Rk w bd Z u) (hp : u.P.length < 1000000) :
    Calls Try.prog 37 #[.pointer (some ⟨bd, 0, none⟩), .int .i64 n, v] w fun e w' => e = .returned (.int .i64 (u.write n b).1) ∧ ∃ Z', Rk w' bd Z' (u.write n b).2 ∧ Fr Z w w' ∧ Grows w Z Z' := by
  have := D.rwrite_any n v (ints b) E (bytes_ints hv) hE h (by simpa [U.st] using hp)
  rwa [st_write] at this
theorem dflush_any (h : Dk w bd Z u) : Calls Try.prog 60 #[.pointer (some ⟨bd, 0, none⟩)] w fun e w' => e = .returned (.int .i64 u.flush.1) ∧ Dk w' bd Z u.flush.2 ∧ Fr Z w w' := by
  have := D.flush_any h
  rwa [st_flush] at this
theorem rflush_any (h : Rk w bd Z u) : Calls Try.prog 32 #[.pointer (some ⟨bd, 0, none⟩)] w fun e w' => e = .returned (.int .i64 u.flush.1) ∧ Rk w' bd Z u.flush.2 ∧ Fr Z w w' := by
  have := D.rflush_any h
  rwa [st_flush] at this
theorem dcrash_any (v : Value) (keep : List Bool) (E : Nat → Prop) (hv : D.BoolsIn w E v keep) (hE : ∀ k, E k → ¬ Z k) (hlen : keep.length ≤ 9223372036854775807) (h : Dk w bd Z u) :
    Calls Try.prog 26 #[.pointer (some ⟨bd, 0, none⟩), v] w fun e w' => e = .returned (.int .i64 (u.crash keep).1) ∧ Dk w' bd Z (u.crash keep).2 ∧ Fr Z w w' := by
  have := D.crash_any v keep E hv hE hlen h
  rwa [st_crash] at this
theorem rcrash_any (v : Value) (keep : List Bool) (E : Nat → Prop) (hv : D.BoolsIn w E v keep) (hE : ∀ k, E k → ¬ Z k) (hlen : keep.length ≤ 9223372036854775807) (h : Rk w bd Z u) :
    Calls Try.prog 33 #[.pointer (some ⟨bd, 0, none⟩), v] w fun e w' => e = .returned (.int .i64 (u.crash keep).1) ∧ Rk w' bd Z (u.crash keep).2 ∧ Fr Z w w' := by
  have := D.rcrash_any v keep E hv hE hlen h
  rwa [st_crash] at this
theorem darm_any (n : Int) (hn : n ≤ 9223372036854775807) (h : Dk w bd Z u) : Calls Try.prog 34 #[.pointer (some ⟨bd, 0, none⟩), .int .i64 n] w fun e w' => e = .returned (.int .i64 (u.arm n).1) ∧ Dk w' bd Z (u.arm n).2 ∧ Fr Z w w' := by
  have := D.arm_any n hn h
  rwa [st_arm] at this
theorem rarm_any (n : Int) (hn : n ≤ 9223372036854775807) (h : Rk w bd Z u) : Calls Try.prog 35 #[.pointer (some ⟨bd, 0, none⟩), .int .i64 n] w fun e w' => e = .returned (.int .i64 (u.arm n).1) ∧ Rk w' bd Z (u.arm n).2 ∧ Fr Z w w' := by
  have := D.rarm_any n hn h
  rwa [st_arm] at this
theorem dpending_any (h : Dk w bd Z u) : Calls Try.prog 39 #[.pointer (some ⟨bd, 0, none⟩)] w fun e w' => e = .returned (.int .i64 u.P.length) ∧ w = w' := by
  have := D.pending_any h
  simpa [U.st] using this
theorem dup_any (h : Dk w bd Z u) : Calls Try.prog 40 #[.pointer (some ⟨bd, 0, none⟩)] w fun e w' => e = .returned (.bool u.up) ∧ w = w' := D.up_any h
theorem dsectors_any (h : Dk w bd Z u) : Calls Try.prog 55 #[.pointer (some ⟨bd, 0, none⟩)] w fun e w' => e = .returned (.int .i64 u.L.length) ∧ w = w' := by
  have := D.sectors_any h
  simpa [U.st] using this
theorem dnew_any (n : Nat) (w : World) (h1 : 1 ≤ n) (h2 : n ≤ 4096) : Calls Try.prog 7 #[.int .i64 n] w fun e w' =>
    ∃ bd Z, e = .returned (.tuple #[.pointer (some ⟨bd, 0, none⟩), .int .i64 0]) ∧ Dk w' bd Z (U.new n) ∧ (∀ k, Z k → w.heap.size ≤ k) ∧ Fr No w w' := by
  have := D.new_yes n w h1 h2
  rwa [← st_new] at this
theorem rnew_any (n : Nat) (w : World) (h1 : 1 ≤ n) (h2 : n ≤ 4096) : Calls Try.prog 8 #[.int .i64 n] w fun e w' =>
    ∃ bd Z, e = .returned (.tuple #[.pointer (some ⟨bd, 0, none⟩), .int .i64 0]) ∧ Rk w' bd Z (U.new n) ∧ (∀ k, Z k → w.heap.size ≤ k) ∧ Fr No w w' := by
  have := D.rnew_yes n w h1 h2
  rwa [← st_new] at this
end
end Go.Proofs.Ytlnolnaapnijbaa.L
