/-
  The document's sums: Add, Sum, Text.
-/
import Derived.Test.YtlnolnaapnijbaaSumA
namespace Go.Proofs.Ytlnolnaapnijbaa.S
set_option maxRecDepth 100000
open Go.RowKit K

/-- The register x and the rest n of a byte, k bits of which are in: what is yet to come is not in the register. -/
def Half (r c k x : Nat) : Prop := x < 4294967296 ∧ x ^^^ (c / 2 ^ k) = steps k (r ^^^ c)
theorem half_zero (r c : Nat) (h : r < 4294967296) : Half r c 0 r := ⟨h, by simp [steps]⟩
theorem half_yes {r c k x : Nat} (h : Half r c k x) (hd : x % 2 ≠ c / 2 ^ k % 2) : Half r c (k + 1) (x / 2 ^^^ P) := by
  obtain ⟨h1, h2⟩ := h
  refine ⟨xor_lt (by omega) (by decide), ?_⟩
  have e := congrArg step h2
  rw [step_xor] at e
  simp only [steps]
  rw [← e, Nat.pow_succ, ← Nat.div_div_eq_div_mul]
  generalize c / 2 ^ k = n at hd
  unfold step
  rcases Nat.mod_two_eq_zero_or_one x with hx | hx <;> rcases Nat.mod_two_eq_zero_or_one n with hn | hn <;> simp only [hx, hn] at hd ⊢ <;> simp at hd ⊢
  all_goals ac_rfl
theorem half_no {r c k x : Nat} (h : Half r c k x) (hd : x % 2 = c / 2 ^ k % 2) : Half r c (k + 1) (x / 2) := by
  obtain ⟨h1, h2⟩ := h
  refine ⟨by omega, ?_⟩
  have e := congrArg step h2
  rw [step_xor] at e
  simp only [steps]
  rw [← e, Nat.pow_succ, ← Nat.div_div_eq_div_mul]
  generalize c / 2 ^ k = n at hd
  unfold step
  rw [hd]
  rcases Nat.mod_two_eq_zero_or_one n with hn | hn
  · rw [hn, if_neg (by decide), Nat.xor_zero, Nat.xor_zero]
  · rw [hn, if_pos rfl, show x / 2 ^^^ P ^^^ (n / 2 ^^^ P) = (x / 2 ^^^ n / 2) ^^^ (P ^^^ P) by ac_rfl, Nat.xor_self, Nat.xor_zero]
theorem half_walk {y : Nat} (h : y < 4294967296) : bits .xor .u32 ((y : Int) / 2 % 4294967296) 3988292384 = ((y / 2 ^^^ P : Nat) : Int) := by
  rw [show (y : Int) / 2 % 4294967296 = ((y / 2 : Nat) : Int) by omega]
  exact xor32 (b := 3988292384) (by omega) (by decide)
theorem half_end {r x : Nat} {c : UInt8} (h : Half r c.toNat 8 x) : x = steps 8 (r ^^^ c.toNat) := by
  have := h.2
  rw [show c.toNat / 2 ^ 8 = 0 by have := c.toNat_lt; omega, Nat.xor_zero] at this
  exact this
set_option maxRecDepth 100000 in
theorem radd_at (s : Nat) (l : List UInt8) (a : Option Addr) (cap : Nat) (w : World) (hs : s < 4294967296) (hr : At w a l) (hl : l.length ≤ 9223372036854775807) : Calls Try.prog 94 #[.int .u32 (s : Int), .slice a l.length cap] w fun e w' =>
    e = .returned (.int .u32 (add s l : Nat)) ∧ w = w' := by
  have HS := hid hs
  have HR := hid hr
  have hs2 : (s : Int) ≤ 4294967295 := by omega
  have HI : Hid ((4294967295 : Int) - s = ((inv s : Nat) : Int)) := hid (by rw [inv_sub hs]; omega)
  clear hs hr
  go_enter Try.func94, Try.ntmps94
  go_wp2_with fail
  rw [HI.out]
  go_loop [5, 6] (fun x k => ∃ n : Nat, n ≤ l.length ∧ k = .int .i64 n ∧ x = .int .u32 (through (inv s) (l.take n) : Nat)) (fun _ k => l.length - (intOf k).toNat)
  case atStart => exact ⟨0, by omega, rfl, rfl⟩
  case round =>
    obtain ⟨n, hn, rfl, rfl⟩ := hrel
    by_cases hlt : n < l.length
    · obtain ⟨g, o, rfl, hc⟩ := HR.out n hlt
      have HT : Hid (through (inv s) (l.take n) < 4294967296) := hid (through_lt (inv_lt HS.out) _)
      have HE := hid (through_take (inv s) l n hlt)
      have hcl : (l[n].toNat : Int) ≤ 255 := by have := l[n].toNat_lt; omega
      go_wp2_with fail
      generalize through (inv s) (l.take n) = r at HT HE ⊢
      generalize l[n] = c at hc HE hcl ⊢
      clear HR
      go_loop [5, 7, 8] (fun x m k => ∃ j y : Nat, j ≤ 8 ∧ k = .int .i64 j ∧ m = .int .i64 (c.toNat / 2 ^ j : Nat) ∧ x = .int .u32 (y : Int) ∧ Hid (Half r c.toNat j y)) (fun _ _ k => 8 - (intOf k).toNat)
      case atStart => exact ⟨0, r, by omega, rfl, by simp, rfl, hid (half_zero r _ HT.out)⟩
      case round =>
        obtain ⟨j, y, hj, rfl, rfl, rfl, HH⟩ := hrel
        by_cases hj8 : j < 8
        · have hm : c.toNat / 2 ^ j ≤ 255 := Nat.le_trans (Nat.div_le_self _ _) (by omega)
          have HP : Hid (c.toNat / 2 ^ (j + 1) = c.toNat / 2 ^ j / 2) := hid (by rw [Nat.pow_succ, Nat.div_div_eq_div_mul])
          have HY := hid (fun hd => half_yes HH.out hd)
          have HN := hid (fun hd => half_no HH.out hd)
          have HW := hid (half_walk HH.out.1)
          have HW2 := hid HH.out.1
          generalize c.toNat / 2 ^ j = m at hm HN HY HP ⊢
          go_wp2_with fail
          · rename_i h1 h2
            have hd : y % 2 ≠ m % 2 := by simp at h2; omega
            go_round
            case rel => exact ⟨j + 1, _, by omega, by go_num, by rw [HP.out]; go_num, by rw [HW.out], hid (HY.out hd)⟩
            case measure => simp [intOf]; omega
          · rename_i h1 h2
            have hd : y % 2 = m % 2 := by simp at h2; omega
            go_round
            case rel => exact ⟨j + 1, _, by omega, by go_num, by rw [HP.out]; go_num, by have := HW2.out; congr 1; omega, hid (HN.out hd)⟩
            case measure => simp [intOf]; omega
        · obtain rfl : j = 8 := by omega
          go_wp2
          go_round
          case rel => exact ⟨n + 1, by omega, by go_num, by rw [HE.out, half_end HH.out]⟩
          case measure => simp [intOf]; omega
    · obtain rfl : n = l.length := by omega
      have HT : Hid (((through (inv s) l : Nat) : Int) ≤ 4294967295) := hid (by have := through_lt (inv_lt HS.out) l; omega)
      have HI2 : Hid ((4294967295 : Int) - (through (inv s) l : Nat) = ((add s l : Nat) : Int)) := hid (by
        have := inv_sub (through_lt (inv_lt HS.out) l)
        have h2 := HT.out
        show _ = ((inv (through (inv s) l) : Nat) : Int)
        omega)
      rw [List.take_length]
      have h2 := HT.out
      go_wp2
      go_ret
      exact ⟨by rw [HI2.out]; rfl, rfl⟩
end Go.Proofs.Ytlnolnaapnijbaa.S
