/-
  The document's bytes: Letter, Digit, signs, hex.
-/
import Derived.Test.YthjmkfpdbbfcpaaGreatDoorDnT
import Derived.Test.YthjmkfpdbbfcpaaGreatDoorDnL
set_option linter.unusedVariables false
set_option linter.unusedSimpArgs false
namespace Go.Proofs.YthjmkfpdbbfcpaaGreatDoor.DN
set_option maxRecDepth 100000
open Go.RowKit K Go.Proofs.YthjmkfpdbbfcpaaGreatDoor.BE

theorem let_n (c : UInt8) : isLet c = decide ((97 ≤ c.toNat ∧ c.toNat ≤ 122) ∨ (65 ≤ c.toNat ∧ c.toNat ≤ 90)) := by
  have := u8_all (fun c => isLet c == decide ((97 ≤ c.toNat ∧ c.toNat ≤ 122) ∨ (65 ≤ c.toNat ∧ c.toNat ≤ 90))) (by decide +kernel) c
  simpa using this
theorem dig_n (c : UInt8) : isDig c = decide (48 ≤ c.toNat ∧ c.toNat ≤ 57) := by
  have := u8_all (fun c => isDig c == decide (48 ≤ c.toNat ∧ c.toNat ≤ 57)) (by decide +kernel) c
  simpa using this
theorem sign_n (c : UInt8) : sign c = decide (c.toNat = 34 ∨ c.toNat = 43 ∨ c.toNat = 44 ∨ c.toNat = 59 ∨ c.toNat = 60 ∨ c.toNat = 62 ∨ c.toNat = 92) := by
  have := u8_all (fun c => sign c == decide (c.toNat = 34 ∨ c.toNat = 43 ∨ c.toNat = 44 ∨ c.toNat = 59 ∨ c.toNat = 60 ∨ c.toNat = 62 ∨ c.toNat = 92)) (by decide +kernel) c
  simpa using this
/-- The document's number of a digit: 16: it is none. -/
def hexN (c : UInt8) : Nat := match hexv c with
  | some x => x.toNat
  | none => 16
theorem hex_n (c : UInt8) : hexN c = if 48 ≤ c.toNat ∧ c.toNat ≤ 57 then c.toNat - 48 else if 97 ≤ c.toNat ∧ c.toNat ≤ 102 then c.toNat - 87 else if 65 ≤ c.toNat ∧ c.toNat ≤ 70 then c.toNat - 55 else 16 := by
  have := u8_all (fun c => hexN c == if 48 ≤ c.toNat ∧ c.toNat ≤ 57 then c.toNat - 48 else if 97 ≤ c.toNat ∧ c.toNat ≤ 102 then c.toNat - 87 else if 65 ≤ c.toNat ∧ c.toNat ≤ 70 then c.toNat - 55 else 16) (by decide +kernel) c
  simpa using this
theorem letter_any (c : UInt8) (w : World) : Calls Tryz.prog 20 #[.int .u8 (c.toNat : Int)] w fun e w' => e = .returned (.bool (isLet c)) ∧ w' = w := by
  rw [let_n]
  generalize c.toNat = n
  have hc : n < 65 ∨ (65 ≤ n ∧ n ≤ 90) ∨ (90 < n ∧ n < 97) ∨ (97 ≤ n ∧ n ≤ 122) ∨ 122 < n := by omega
  rcases hc with h | h | h | h | h
  · have h1 : ¬ (97 : Int) ≤ n := by omega
    have h2 : ¬ (65 : Int) ≤ n := by omega
    rw [decide_eq_false (by omega)]
    clear h
    go_enter Tryz.func20, Tryz.ntmps20
    go_wp2
    go_ret
    exact ⟨rfl, rfl⟩
  · have h1 : ¬ (97 : Int) ≤ n := by omega
    have h2 : (65 : Int) ≤ n := by omega
    have h3 : (n : Int) ≤ 90 := by omega
    rw [decide_eq_true (by omega)]
    clear h
    go_enter Tryz.func20, Tryz.ntmps20
    go_wp2
    go_ret
    exact ⟨rfl, rfl⟩
  · have h1 : ¬ (97 : Int) ≤ n := by omega
    have h2 : (65 : Int) ≤ n := by omega
    have h3 : ¬ (n : Int) ≤ 90 := by omega
    rw [decide_eq_false (by omega)]
    clear h
    go_enter Tryz.func20, Tryz.ntmps20
    go_wp2
    go_ret
    exact ⟨rfl, rfl⟩
  · have h1 : (97 : Int) ≤ n := by omega
    have h2 : (n : Int) ≤ 122 := by omega
    rw [decide_eq_true (by omega)]
    clear h
    go_enter Tryz.func20, Tryz.ntmps20
    go_wp2
    go_ret
    exact ⟨rfl, rfl⟩
  · have h1 : (97 : Int) ≤ n := by omega
    have h2 : ¬ (n : Int) ≤ 122 := by omega
    have h3 : (65 : Int) ≤ n := by omega
    have h4 : ¬ (n : Int) ≤ 90 := by omega
    rw [decide_eq_false (by omega)]
    clear h
    go_enter Tryz.func20, Tryz.ntmps20
    go_wp2
    go_ret
    exact ⟨rfl, rfl⟩
theorem digit_any (c : UInt8) (w : World) : Calls Tryz.prog 21 #[.int .u8 (c.toNat : Int)] w fun e w' => e = .returned (.bool (isDig c)) ∧ w' = w := by
  rw [dig_n]
  generalize c.toNat = n
  by_cases h1 : 48 ≤ n
  · have h1i : (48 : Int) ≤ n := by omega
    by_cases h2 : n ≤ 57
    · have h2i : (n : Int) ≤ 57 := by omega
      rw [decide_eq_true (by omega)]
      clear h1 h2
      go_enter Tryz.func21, Tryz.ntmps21
      go_wp2
      go_ret
      exact ⟨rfl, rfl⟩
    · have h2i : ¬ (n : Int) ≤ 57 := by omega
      rw [decide_eq_false (by omega)]
      clear h1 h2
      go_enter Tryz.func21, Tryz.ntmps21
      go_wp2
      go_ret
      exact ⟨rfl, rfl⟩
  · have h1i : ¬ (48 : Int) ≤ n := by omega
    rw [decide_eq_false (by omega)]
    clear h1
    go_enter Tryz.func21, Tryz.ntmps21
    go_wp2
    go_ret
    exact ⟨rfl, rfl⟩
theorem signs_any (c : UInt8) (w : World) : Calls Tryz.prog 37 #[.int .u8 (c.toNat : Int)] w fun e w' => e = .returned (.bool (sign c)) ∧ w' = w := by
  rw [sign_n]
  generalize c.toNat = n
  obtain ⟨R, hR⟩ : ∃ R, decide (n = 34 ∨ n = 43 ∨ n = 44 ∨ n = 59 ∨ n = 60 ∨ n = 62 ∨ n = 92) = R := ⟨_, rfl⟩
  rw [hR]
  have HR := hid hR
  clear hR
  go_enter Tryz.func37, Tryz.ntmps37
  go_wp2
  all_goals go_ret
  all_goals refine ⟨?_, rfl⟩
  all_goals have h := HR.out
  all_goals first
    | (rw [decide_eq_true (by omega)] at h; subst h; rfl)
    | (subst h; refine congrArg (fun b => Ending.returned (Value.bool b)) ?_; rw [Bool.eq_iff_iff]; simp; omega)
theorem hex_any (c : UInt8) (w : World) : Calls Tryz.prog 38 #[.int .u8 (c.toNat : Int)] w fun e w' => e = .returned (.int .i64 (hexN c : Int)) ∧ w' = w := by
  obtain ⟨H, hH⟩ : ∃ H, hexN c = H := ⟨_, rfl⟩
  have h0 := hex_n c
  have hc := c.toNat_lt
  rw [hH] at h0 ⊢
  generalize c.toNat = n at h0 hc
  have hn0 : (0 : Int) ≤ n := by omega
  have hn1 : (n : Int) < 256 := by omega
  have HH := hid h0
  clear h0 hH hc
  go_enter Tryz.func38, Tryz.ntmps38
  go_wp2
  all_goals go_ret
  all_goals refine ⟨congrArg (fun x : Int => Ending.returned (Value.int .i64 x)) ?_, rfl⟩
  all_goals have h := HH.out
  all_goals (repeat' split at h) <;> omega
theorem hexv_lt16 {c x : UInt8} (h : hexv c = some x) : x.toNat < 16 := by
  have := u8_all (fun c => match hexv c with | some x => decide (x.toNat < 16) | none => true) (by decide +kernel) c
  rw [h] at this
  simpa using this
theorem hex_join {x y : UInt8} (hx : x.toNat < 16) (hy : y.toNat < 16) : (16 * x + y).toNat = 16 * x.toNat + y.toNat := by
  rw [UInt8.toNat_add, UInt8.toNat_mul]
  have : (16 : UInt8).toNat = 16 := rfl
  rw [this]
  omega
theorem one_bare (den : B) (r : B) {c : UInt8} (h92 : c ≠ 92) (h44 : c ≠ 44) (h43 : c ≠ 43) : one den c r = if c = 0 ∨ sign c = true ∨ (den = [] ∧ (c = 35 ∨ c = 32)) then none else some (c, c == 32, r) := by
  unfold one sign
  rw [if_neg h92]
  by_cases k0 : c = 0 <;> by_cases k1 : c = 34 <;> by_cases k2 : c = 59 <;> by_cases k3 : c = 60 <;> by_cases k4 : c = 62 <;> by_cases k5 : c = 35 <;> by_cases k6 : c = 32 <;> by_cases k7 : den = [] <;> simp_all
theorem esc_ok {d : UInt8} {r : B} (h : (sign d || d == 35 || d == 61 || d == 32) = true) : esc (d :: r) = some (d, r) := by
  unfold esc
  simp only [h, if_true]
theorem esc_no {d : UInt8} {r : B} (h : ¬ (sign d || d == 35 || d == 61 || d == 32) = true) : esc (d :: r) = match r with
    | [] => none
    | d2 :: r' => match hexv d, hexv d2 with
      | some x, some y => some (16 * x + y, r')
      | _, _ => none := by
  unfold esc
  simp only [h, Bool.false_eq_true, if_false]
  cases r <;> rfl
end Go.Proofs.YthjmkfpdbbfcpaaGreatDoor.DN
