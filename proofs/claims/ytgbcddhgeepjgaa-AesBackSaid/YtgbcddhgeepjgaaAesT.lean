/-
  Package aes: products, inverses, boxes: the program's and the document's.
-/
import Derived.Test.YtgbcddhgeepjgaaChecked
import Derived.Test.YtgbcddhgeepjgaaKit
import Derived.Test.YtgbcddhgeepjgaaAesM
namespace Go.Proofs.Ytgbcddhgeepjgaa.AE
set_option maxRecDepth 100000
open Go.RowKit K

theorem xor8 {a b : Nat} (ha : a < 256) (hb : b < 256) : bits .xor .u8 (a : Int) (b : Int) = ((a ^^^ b : Nat) : Int) := u8_xor_nat a b ha hb
theorem mask8 (c : Nat) (hc : c < 256) (x : Nat) (hx : x < 2) : bits .and .u8 (c : Int) (-(x : Int) % 256) = ((if x = 1 then c else 0 : Nat) : Int) := by
  have : x = 0 ∨ x = 1 := by omega
  rcases this with rfl | rfl
  · have := u8_and_nat c 0 hc (by decide)
    simpa using this
  · have := u8_and_nat c 255 hc (by decide)
    have e : c &&& 255 = c := by rw [nat_mask8]; omega
    rw [e] at this
    simpa using this
theorem xt_step {x : Nat} (h : x < 256) : bits .xor .u8 ((x : Int) * 2 % 256) (bits .and .u8 27 (-((x : Int) / 128) % 256)) = ((xt x : Nat) : Int) := by
  have e1 : ((x : Int) / 128) = ((x / 128 : Nat) : Int) := by omega
  have e2 : ((x : Int) * 2 % 256) = ((x * 2 % 256 : Nat) : Int) := by omega
  have e3 := mask8 27 (by decide) (x / 128) (by omega)
  have e4 : (27 : Int) = ((27 : Nat) : Int) := rfl
  rw [e1, e2, e4, e3, xor8 (by omega) (by split <;> decide)]
  unfold xt
  by_cases h1 : 128 ≤ x
  · rw [if_pos (by omega), if_pos h1]
  · rw [if_neg (by omega), if_neg h1]
theorem sel_step {p x b n : Nat} (hp : p < 256) (hx : x < 256) (hb : b < 256) :
    bits .xor .u8 (p : Int) (bits .and .u8 (x : Int) (-bits .and .u8 ((b : Int) / 2 ^ n) 1 % 256)) = ((p ^^^ sel b n x : Nat) : Int) := by
  have e1 : ((b : Int) / 2 ^ n) = ((b / 2 ^ n : Nat) : Int) := by simp
  have hl : b / 2 ^ n < 256 := Nat.lt_of_le_of_lt (Nat.div_le_self _ _) hb
  have e2 : bits .and .u8 ((b / 2 ^ n : Nat) : Int) 1 = ((b / 2 ^ n % 2 : Nat) : Int) := by
    have := u8_and_nat (b / 2 ^ n) 1 hl (by decide)
    rw [nat_mask1] at this
    exact this
  rw [e1, e2, mask8 x hx _ (by omega)]
  have e3 : (if b / 2 ^ n % 2 = 1 then x else 0) = sel b n x := by
    unfold sel
    rw [Nat.testBit_eq_decide_div_mod_eq]
    simp
  rw [e3, xor8 hp (sel_lt hx)]

theorem times_any (a b : Nat) (w : World) (ha : a < 256) (hb : b < 256) : Calls Try.prog 11 #[.int .u8 (a : Int), .int .u8 (b : Int)] w fun e w' =>
    e = .returned (.int .u8 (times a b : Nat)) ∧ w = w' := by
  have HA := hid ha; have HB := hid hb; clear ha hb
  go_enter Try.func11, Try.ntmps11
  go_wp2
  go_loop [0, 5, 7] (fun x p k => ∃ n : Nat, n ≤ 8 ∧ k = .int .i64 n ∧ x = .int .u8 (xs n a : Nat) ∧ p = .int .u8 (tm n a b : Nat)) (fun _ _ k => 8 - (intOf k).toNat)
  case atStart => exact ⟨0, by omega, rfl, rfl, rfl⟩
  case round =>
    obtain ⟨n, hn, rfl, rfl, rfl⟩ := hrel
    by_cases hlt : n < 8
    · go_wp2
      go_round
      case rel => exact ⟨n + 1, by omega, by go_num, by rw [xt_step (xs_lt HA.out n)]; rfl, by rw [sel_step (tm_lt HA.out b n) (xs_lt HA.out n) HB.out]; rfl⟩
      case measure => simp [intOf]; omega
    · obtain rfl : n = 8 := by omega
      go_wp2
      go_ret
      exact ⟨rfl, rfl⟩
theorem rot_eq {r k : Nat} (hr : r < 256) : bits .or .u8 ((r : Int) * 2 ^ k % 256) ((r : Int) / 2 ^ (8 - k)) = ((rotl k r : Nat) : Int) := by
  have e1 : ((r : Int) * 2 ^ k % 256) = ((r * 2 ^ k % 256 : Nat) : Int) := by simp
  have e2 : ((r : Int) / 2 ^ (8 - k)) = ((r / 2 ^ (8 - k) : Nat) : Int) := by simp
  rw [e1, e2, u8_or_nat _ _ (Nat.mod_lt _ (by decide)) (Nat.lt_of_le_of_lt (Nat.div_le_self _ _) hr)]
  rfl
theorem rot_any (r : Nat) (k : Nat) (w : World) (hr : r < 256) (hk : k < 8) (h0 : 0 < k) : Calls Try.prog 22 #[.int .u8 (r : Int), .int .i64 (k : Int)] w fun e w' =>
    e = .returned (.int .u8 (rotl k r : Nat)) ∧ w = w' := by
  have HA := hid hr; clear hr
  have h7 : bits .and .u64 (k : Int) 7 = (k : Int) := by
    have := u64_and_nat k 7 (by omega) (by decide)
    rw [nat_mask3, Nat.mod_eq_of_lt hk] at this
    exact this
  go_enter Try.func22, Try.ntmps22
  go_wp2
  go_ret
  refine ⟨?_, rfl⟩
  show Ending.returned (.int .u8 (bits .or .u8 ((r : Int) * 2 ^ k % 256) ((r : Int) / 2 ^ (8 - k)))) = _
  rw [rot_eq HA.out]

theorem xor64 {a b : Nat} (ha : a < 65536) (hb : b < 65536) : bits .xor .i64 (a : Int) (b : Int) = ((a ^^^ b : Nat) : Int) := by
  have hx : a ^^^ b < 2 ^ 16 := Nat.xor_lt_two_pow (by omega) (by omega)
  show IntKind.i64.wrap ((BitVec.ofInt 64 (a : Int) ^^^ BitVec.ofInt 64 (b : Int)).toNat : Int) = _
  rw [BitVec.toNat_xor, ofInt_u64 a (by omega), ofInt_u64 b (by omega), IntKind.wrap_i64]
  omega
theorem mul2 {a n m : Nat} (ha : a < m) (hn : n ≤ 7) : a * 2 ^ n < m * 128 := by
  have : 2 ^ n ≤ 2 ^ 7 := Nat.pow_le_pow_right (by decide) hn
  calc a * 2 ^ n < m * 2 ^ n := Nat.mul_lt_mul_of_pos_right ha (Nat.two_pow_pos n)
    _ ≤ m * 128 := Nat.mul_le_mul_left _ this
theorem pol_lt {a : Nat} (ha : a < 256) (b : Nat) : ∀ n, n ≤ 8 → pol a b n < 65536
  | 0, _ => by simp [pol]
  | n + 1, h => by
    refine Nat.xor_lt_two_pow (n := 16) (pol_lt ha b n (by omega)) ?_
    unfold sel
    have := mul2 (n := n) ha (by omega)
    split
    · omega
    · decide
theorem rem_lt {p : Nat} (hp : p < 65536) : ∀ n, n ≤ 7 → rem p n < 65536
  | 0, _ => hp
  | n + 1, h => by
    refine Nat.xor_lt_two_pow (n := 16) (rem_lt hp n (by omega)) ?_
    unfold sel
    have := mul2 (a := 283) (m := 284) (n := 6 - n) (by decide) (by omega)
    split
    · omega
    · decide
theorem w64 {x : Nat} (h : x < 9223372036854775808) : wrap64 (x : Int) = (x : Int) := by unfold wrap64; omega
theorem bit_tmod (b n : Nat) : (((b : Int) / 2 ^ n).tmod 2 == 1) = b.testBit n := by
  have e1 : ((b : Int) / 2 ^ n) = ((b / 2 ^ n : Nat) : Int) := by simp
  rw [e1, Nat.testBit_eq_decide_div_mod_eq]
  generalize b / 2 ^ n = x
  rw [Int.tmod_eq_emod_of_nonneg (by omega)]
  by_cases h : x % 2 = 1
  · have : (x : Int) % 2 = 1 := by omega
    rw [this]; simp [h]
  · have : (x : Int) % 2 = 0 := by omega
    rw [this]; simp [h]
theorem rtimes_any (a b : Nat) (w : World) (ha : a < 256) (hb : b < 256) : Calls Try.prog 12 #[.int .u8 (a : Int), .int .u8 (b : Int)] w fun e w' =>
    e = .returned (.int .u8 (times a b : Nat)) ∧ w = w' := by
  have HA := hid ha; have HB := hid hb
  have hwa : wrap64 (a : Int) = (a : Int) := w64 (by omega)
  have hwb : wrap64 (b : Int) = (b : Int) := w64 (by omega)
  clear ha hb
  go_enter Try.func12, Try.ntmps12
  go_wp2
  go_loop [5, 6] (fun p k => ∃ n : Nat, n ≤ 8 ∧ k = .int .i64 n ∧ p = .int .i64 (pol a b n : Nat)) (fun _ k => 8 - (intOf k).toNat)
  case atStart => exact ⟨0, by omega, rfl, rfl⟩
  case round =>
    obtain ⟨n, hn, rfl, rfl⟩ := hrel
    by_cases hlt : n < 8
    · have hm : wrap64 ((a : Int) * 2 ^ n) = ((a * 2 ^ n : Nat) : Int) := by
        have e : ((a : Int) * 2 ^ n) = ((a * 2 ^ n : Nat) : Int) := by simp
        have := mul2 (n := n) HA.out (by omega)
        rw [e]; exact w64 (by omega)
      have hx := xor64 (pol_lt HA.out b n (by omega)) (b := a * 2 ^ n) (by have := mul2 (n := n) HA.out (by omega); omega)
      cases hbit : b.testBit n
      · have hc : (((b : Int) / 2 ^ n).tmod 2 == 1) = false := (bit_tmod b n).trans hbit
        have hs : pol a b (n + 1) = pol a b n := by simp [pol, sel, hbit]
        have HS := hid hs; have HX := hid hx; clear hs hx hbit
        go_wp2
        go_round
        case rel => exact ⟨n + 1, by omega, by go_num, by rw [HS.out]⟩
        case measure => simp [intOf]; omega
      · have hc : (((b : Int) / 2 ^ n).tmod 2 == 1) = true := (bit_tmod b n).trans hbit
        have hs : pol a b (n + 1) = pol a b n ^^^ a * 2 ^ n := by simp [pol, sel, hbit]
        have HS := hid hs; have HX := hid hx; clear hs hx hbit
        go_wp2
        go_round
        case rel => exact ⟨n + 1, by omega, by go_num, by rw [HS.out, ← HX.out]; try rfl⟩
        case measure => simp [intOf]; omega
    · obtain rfl : n = 8 := by omega
      go_wp2
      obtain ⟨p, hp⟩ : ∃ p, pol a b 8 = p := ⟨_, rfl⟩
      have HP := hid (hp ▸ pol_lt HA.out b 8 (by omega) : p < 65536)
      have HE := hid (hp ▸ ptimes_eq HA.out HB.out : rem p 7 % 256 = times a b)
      rw [hp]
      clear hp
      go_loop [5, 7] (fun q k => ∃ n : Nat, n ≤ 7 ∧ k = .int .i64 (14 - (n : Int)) ∧ q = .int .i64 (rem p n : Nat)) (fun _ k => (intOf k).toNat)
      case atStart => exact ⟨0, by omega, rfl, rfl⟩
      case round =>
        obtain ⟨n, hn, rfl, rfl⟩ := hrel
        by_cases hlt : n < 7
        · have hm : wrap64 (283 * 2 ^ (14 - n - 8)) = ((283 * 2 ^ (6 - n) : Nat) : Int) := by
            have e : ((283 : Int) * 2 ^ (14 - n - 8)) = ((283 * 2 ^ (6 - n) : Nat) : Int) := by
              rw [show 14 - n - 8 = 6 - n by omega]; simp
            have := mul2 (a := 283) (m := 284) (n := 6 - n) (by decide) (by omega)
            rw [e]; exact w64 (by omega)
          have hx := xor64 (rem_lt HP.out n (by omega)) (b := 283 * 2 ^ (6 - n)) (by have := mul2 (a := 283) (m := 284) (n := 6 - n) (by decide) (by omega); omega)
          cases hbit : (rem p n).testBit (14 - n)
          · have hc : ((((rem p n : Nat) : Int) / 2 ^ (14 - n)).tmod 2 == 1) = false := (bit_tmod (rem p n) (14 - n)).trans hbit
            have hs : rem p (n + 1) = rem p n := by simp [rem, sel, hbit]
            have HS := hid hs; have HX := hid hx; clear hs hx hbit
            go_wp2
            go_round
            case rel => exact ⟨n + 1, by omega, by go_num, by rw [HS.out]⟩
            case measure => simp [intOf]; omega
          · have hc : ((((rem p n : Nat) : Int) / 2 ^ (14 - n)).tmod 2 == 1) = true := (bit_tmod (rem p n) (14 - n)).trans hbit
            have hs : rem p (n + 1) = rem p n ^^^ 283 * 2 ^ (6 - n) := by simp [rem, sel, hbit]
            have HS := hid hs; have HX := hid hx; clear hs hx hbit
            go_wp2
            go_round
            case rel => exact ⟨n + 1, by omega, by go_num, by rw [HS.out, ← HX.out]; try rfl⟩
            case measure => simp [intOf]; omega
        · obtain rfl : n = 7 := by omega
          go_wp2
          go_ret
          refine ⟨?_, rfl⟩
          rw [← HE.out]
          simp
end Go.Proofs.Ytgbcddhgeepjgaa.AE
