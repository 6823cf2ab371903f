/-
  Package aes: inverses and boxes: the program's and the document's.
-/
import Derived.Test.YtgbcddhgeepjgaaAesT
namespace Go.Proofs.Ytgbcddhgeepjgaa.AE
set_option maxRecDepth 100000
open Go.RowKit K

theorem inv_any (b : Nat) (w : World) (hb : b < 256) : Calls Try.prog 21 #[.int .u8 (b : Int)] w fun e w' =>
    e = .returned (.int .u8 (inv b : Nat)) ∧ w = w' := by
  have HB := hid hb; clear hb
  go_enter Try.func21, Try.ntmps21
  go_wp2_with fail
  go_loopw [0, 3, 4] (fun x p k wr => ∃ n : Nat, n ≤ 7 ∧ k = .int .i64 n ∧ x = .int .u8 ((pr n b).2 : Nat) ∧ p = .int .u8 ((pr n b).1 : Nat) ∧ w = wr) (fun _ _ k _ => 7 - (intOf k).toNat)
  case atStart => exact ⟨0, by omega, rfl, rfl, rfl, rfl⟩
  case round =>
    obtain ⟨n, hn, rfl, rfl, rfl, rfl⟩ := hrel
    by_cases hlt : n < 7
    · go_wp2_with fail
      refine (times_any _ _ _ (pr_lt HB.out n).2 (pr_lt HB.out n).2).mono ?_
      rintro e w' ⟨rfl, rfl⟩
      go_wp2_with fail
      refine (times_any _ _ _ (pr_lt HB.out n).1 (times_lt (pr_lt HB.out n).2 _)).mono ?_
      rintro e w' ⟨rfl, rfl⟩
      go_wp2_with fail
      go_roundw
      case rel => exact ⟨n + 1, by omega, by go_num, rfl, rfl, trivial⟩
      case measure => simp [intOf]; omega
    · obtain rfl : n = 7 := by omega
      go_wp2_with fail
      go_ret
      exact ⟨rfl, rfl⟩
theorem box_any (b : Nat) (w : World) (hb : b < 256) : Calls Try.prog 13 #[.int .u8 (b : Int)] w fun e w' =>
    e = .returned (.int .u8 (box b : Nat)) ∧ w = w' := by
  have HB := hid hb; clear hb
  go_enter Try.func13, Try.ntmps13
  go_wp2_with fail
  refine (inv_any b _ HB.out).mono ?_
  rintro e w' ⟨rfl, rfl⟩
  have HI := hid (inv_lt HB.out)
  go_wp2_with fail
  refine (rot_any (inv b) 4 _ HI.out (by decide) (by decide)).mono ?_
  rintro e w' ⟨rfl, rfl⟩
  go_wp2_with fail
  refine (rot_any (inv b) 3 _ HI.out (by decide) (by decide)).mono ?_
  rintro e w' ⟨rfl, rfl⟩
  go_wp2_with fail
  refine (rot_any (inv b) 2 _ HI.out (by decide) (by decide)).mono ?_
  rintro e w' ⟨rfl, rfl⟩
  go_wp2_with fail
  refine (rot_any (inv b) 1 _ HI.out (by decide) (by decide)).mono ?_
  rintro e w' ⟨rfl, rfl⟩
  go_wp2_with fail
  go_ret
  refine ⟨?_, rfl⟩
  have h4 := rotl_lt (k := 4) HI.out; have h3 := rotl_lt (k := 3) HI.out; have h2 := rotl_lt (k := 2) HI.out; have h1 := rotl_lt (k := 1) HI.out
  show Ending.returned (.int .u8 (bits .xor .u8 (bits .xor .u8 (bits .xor .u8 (bits .xor .u8 (bits .xor .u8 (inv b : Nat) (rotl 4 (inv b) : Nat)) (rotl 3 (inv b) : Nat)) (rotl 2 (inv b) : Nat)) (rotl 1 (inv b) : Nat)) ((99 : Nat) : Int))) = _
  rw [xor8 HI.out h4, xor8 (xor_lt HI.out h4) h3, xor8 (xor_lt (xor_lt HI.out h4) h3) h2, xor8 (xor_lt (xor_lt (xor_lt HI.out h4) h3) h2) h1, xor8 (xor_lt (xor_lt (xor_lt (xor_lt HI.out h4) h3) h2) h1) (by decide)]
  rfl
theorem unbox_any (b : Nat) (w : World) (hb : b < 256) : Calls Try.prog 31 #[.int .u8 (b : Int)] w fun e w' =>
    e = .returned (.int .u8 (unbox b : Nat)) ∧ w = w' := by
  have hx : bits .xor .u8 (b : Int) 99 = ((b ^^^ 99 : Nat) : Int) := xor8 hb (by decide)
  have hl := xor_lt hb (b := 99) (by decide)
  obtain ⟨x, hX⟩ : ∃ x, b ^^^ 99 = x := ⟨_, rfl⟩
  rw [hX] at hx hl
  have HL := hid hl; have HX := hid hX; have HB := hid hb; clear hl hX hb
  go_enter Try.func31, Try.ntmps31
  go_wp2_with fail
  refine (rot_any x 6 _ HL.out (by decide) (by decide)).mono ?_
  rintro e w' ⟨rfl, rfl⟩
  go_wp2_with fail
  refine (rot_any x 3 _ HL.out (by decide) (by decide)).mono ?_
  rintro e w' ⟨rfl, rfl⟩
  go_wp2_with fail
  refine (rot_any x 1 _ HL.out (by decide) (by decide)).mono ?_
  rintro e w' ⟨rfl, rfl⟩
  have h6 := rotl_lt (k := 6) HL.out; have h3 := rotl_lt (k := 3) HL.out; have h1 := rotl_lt (k := 1) HL.out
  have e1 := xor8 h6 h3
  have e2 := xor8 (xor_lt h6 h3) h1
  have H1 := hid (xor_lt (xor_lt h6 h3) h1)
  clear h6 h3 h1
  go_wp2_with fail
  refine (inv_any _ _ H1.out).mono ?_
  rintro e w' ⟨rfl, rfl⟩
  go_wp2_with fail
  go_ret
  refine ⟨?_, rfl⟩
  rw [← HX.out]
  rfl
theorem rinv_any (b : Nat) (w : World) (hb : b < 256) : Calls Try.prog 23 #[.int .u8 (b : Int)] w fun e w' =>
    e = .returned (.int .u8 (inv b : Nat)) ∧ w = w' := by
  have HB := hid hb
  have HF := hid (find_all hb); clear hb
  go_enter Try.func23, Try.ntmps23
  go_wp2_with fail
  go_loopw [3] (fun k wr => ∃ n : Nat, 1 ≤ n ∧ n ≤ 256 ∧ k = .int .i64 n ∧ w = wr ∧ Hid (find b n (256 - n) = inv b)) (fun k _ => 256 - (intOf k).toNat)
  case atStart => exact ⟨1, by omega, by omega, rfl, rfl, HF⟩
  case round =>
    obtain ⟨n, h1, h2, rfl, rfl, hF⟩ := hrel
    by_cases hlt : n < 256
    · have hw : ((n : Int) % 256) = (n : Int) := by omega
      go_wp2_with fail
      refine (rtimes_any b n _ HB.out hlt).mono ?_
      rintro e w' ⟨rfl, rfl⟩
      have hF' := hF.out
      rw [show 256 - n = 255 - n + 1 by omega, find] at hF'
      by_cases he : times b n = 1
      · rw [if_pos he] at hF'
        have HE := hid he; have HF' := hid hF'; clear hF' he
        have hc : (((times b n : Nat) : Int) == 1) = true := by rw [HE.out]; rfl
        go_wp2_with fail
        go_ret
        refine ⟨?_, rfl⟩
        rw [← HF'.out]
        try rfl
      · rw [if_neg he] at hF'
        have HE := hid he; have HF' := hid hF'; clear hF' he
        have hc : (((times b n : Nat) : Int) == 1) = false := by
          have := HE.out
          simp; omega
        go_wp2_with fail
        go_roundw
        case rel => exact ⟨n + 1, by omega, by omega, by go_num, trivial, hid (by rw [show 256 - (n + 1) = 255 - n by omega]; exact HF'.out)⟩
        case measure => simp [intOf]; omega
    · obtain rfl : n = 256 := by omega
      go_wp2_with fail
      go_ret
      refine ⟨?_, rfl⟩
      have := hF.out
      rw [show (256 - 256 : Nat) = 0 by decide, find] at this
      rw [← this]
      rfl
/-- The sum of a bit's parts, from the fourth on. -/
def rsum (r k : Nat) : Nat → Nat
  | 0 => 99 / 2 ^ k % 2
  | n + 1 => rsum r k n + r / 2 ^ ((k + (4 + n)) % 8) % 2
theorem rsum_eq (r k : Nat) : rsum r k 5 = rbit r k := rfl
theorem rsum_le (r k : Nat) : ∀ n, rsum r k n ≤ n + 1
  | 0 => by simp only [rsum]; omega
  | n + 1 => by
    have := rsum_le r k n
    simp only [rsum]; omega
theorem rbox_le (r : Nat) : ∀ n, rbox r n ≤ 2 ^ n - 1
  | 0 => by simp [rbox]
  | n + 1 => by
    have := rbox_le r n
    have h2 := Nat.two_pow_pos n
    simp only [rbox, Nat.pow_succ]
    split <;> omega
theorem tmod2 (x n : Nat) : ((x : Int) / 2 ^ n).tmod 2 = ((x / 2 ^ n % 2 : Nat) : Int) := by
  have e1 : ((x : Int) / 2 ^ n) = ((x / 2 ^ n : Nat) : Int) := by simp
  rw [e1]
  generalize x / 2 ^ n = y
  rw [Int.tmod_eq_emod_of_nonneg (by omega)]
  omega
theorem rbox_any (b : Nat) (w : World) (hb : b < 256) : Calls Try.prog 14 #[.int .u8 (b : Int)] w fun e w' =>
    e = .returned (.int .u8 (box b : Nat)) ∧ w = w' := by
  have HB := hid hb; clear hb
  go_enter Try.func14, Try.ntmps14
  go_wp2_with fail
  refine (rinv_any b _ HB.out).mono ?_
  rintro e w' ⟨rfl, rfl⟩
  obtain ⟨r, hr⟩ : ∃ r, inv b = r := ⟨_, rfl⟩
  have HR := hid (hr ▸ inv_lt HB.out : r < 256)
  have HE := hid (show rbox r 8 = box b by rw [rbox_eq HR.out, ← hr]; rfl)
  rw [hr]
  clear hr
  have hw : wrap64 (r : Int) = r := w64 (by have := HR.out; omega)
  go_wp2_with fail
  go_loopw [4, 5] (fun o k wr => ∃ n : Nat, n ≤ 8 ∧ k = .int .i64 n ∧ o = .int .i64 (rbox r n : Nat) ∧ w = wr) (fun _ k _ => 8 - (intOf k).toNat)
  case atStart => exact ⟨0, by omega, rfl, rfl, rfl⟩
  case round =>
    obtain ⟨n, hn, rfl, rfl, rfl⟩ := hrel
    by_cases hlt : n < 8
    · have h99 : ((99 : Int) / 2 ^ n).tmod 2 = ((rsum r n 0 : Nat) : Int) := tmod2 99 n
      go_wp2_with fail
      go_loopw [6, 7] (fun o k wr => ∃ m : Nat, m ≤ 5 ∧ k = .int .i64 (4 + m : Nat) ∧ o = .int .i64 (rsum r n m : Nat) ∧ w = wr) (fun _ k _ => 9 - (intOf k).toNat)
      case atStart => exact ⟨0, by omega, rfl, rfl, rfl⟩
      case round =>
        obtain ⟨m, hm, rfl, rfl, rfl⟩ := hrel
        by_cases hlt2 : m < 5
        · have hl := rsum_le r n m
          have hb2 : (((n : Int) + ((4 + m : Nat) : Int)).tmod 8) = (((n + (4 + m)) % 8 : Nat) : Int) := by
            rw [Int.tmod_eq_emod_of_nonneg (by omega)]; omega
          have ht := tmod2 r ((n + (4 + m)) % 8)
          go_wp2_with fail
          go_roundw
          case rel => exact ⟨m + 1, by omega, by go_num, rfl, trivial⟩
          case measure => simp [intOf]; omega
        · obtain rfl : m = 5 := by omega
          have hl := rsum_le r n 5
          have hle := rbox_le r n
          have hp : 2 ^ n ≤ 128 := Nat.pow_le_pow_right (j := 7) (by decide) (by omega)
          have hsh : wrap64 (2 ^ n) = ((2 ^ n : Nat) : Int) := by
            have e : ((2 : Int) ^ n) = ((2 ^ n : Nat) : Int) := by simp
            rw [e]; exact w64 (by omega)
          have hs2 : wrap64 (((rbox r n : Nat) : Int) + 2 ^ n) = ((rbox r n + 2 ^ n : Nat) : Int) := by
            have e : (((rbox r n : Nat) : Int) + 2 ^ n) = ((rbox r n + 2 ^ n : Nat) : Int) := by simp
            rw [e]; exact w64 (by omega)
          by_cases hodd : rsum r n 5 % 2 = 1
          · have hs : rbox r (n + 1) = rbox r n + 2 ^ n := by
              rw [rsum_eq] at hodd
              simp [rbox, hodd]
            have HS := hid hs; have HO := hid hodd; clear hs hodd
            have hc : (((rsum r n 5 : Nat) : Int) % 2 == 1) = true := by
              have := HO.out
              rw [beq_iff_eq]; omega
            go_wp2_with fail
            go_roundw
            case rel => exact ⟨n + 1, by omega, by go_num, by first | rw [HS.out, ← hs2] | rw [HS.out], trivial⟩
            case measure => simp [intOf]; omega
          · have hs : rbox r (n + 1) = rbox r n := by
              rw [rsum_eq] at hodd
              simp [rbox, hodd]
            have HS := hid hs; have HO := hid hodd; clear hs hodd
            have hc : (((rsum r n 5 : Nat) : Int) % 2 == 1) = false := by
              have := HO.out
              rw [beq_eq_false_iff_ne]; omega
            go_wp2_with fail
            go_roundw
            case rel => exact ⟨n + 1, by omega, by go_num, by first | rw [HS.out, ← hs2] | rw [HS.out], trivial⟩
            case measure => simp [intOf]; omega
    · obtain rfl : n = 8 := by omega
      go_wp2_with fail
      go_ret
      refine ⟨?_, rfl⟩
      have hle := rbox_le r 8
      have hb8 := HE.out
      show Ending.returned (.int .u8 (((rbox r 8 : Nat) : Int) % 256)) = _
      rw [← hb8, show (((rbox r 8 : Nat) : Int) % 256) = ((rbox r 8 : Nat) : Int) by omega]
end Go.Proofs.Ytgbcddhgeepjgaa.AE
