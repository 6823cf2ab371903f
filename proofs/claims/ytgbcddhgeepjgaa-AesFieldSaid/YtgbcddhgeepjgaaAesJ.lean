/-
  The laws of stage 6 that speak of bytes: AesTimes, AesField, AesBox, AesBoxes.
-/
import Derived.Test.YtgbcddhgeepjgaaAesV
namespace Go.Proofs.Ytgbcddhgeepjgaa.AE
set_option maxRecDepth 100000
open Go.RowKit K

theorem aesTimes_walk (W : World) (a b : Nat) (ha : a < 256) (hb : b < 256) : Calls Try.prog 3 #[.int .u8 (a : Int), .int .u8 (b : Int)] W fun e w' => e = .returned (.bool true) ∧ Fr No W w' := by
  have HA := hid ha; have HB := hid hb; clear ha hb
  have h57 : times 87 131 = 193 := by decide +kernel
  go_enter Try.func3, Try.ntmps3
  go_wp2_with fail
  refine (times_any a b _ HA.out HB.out).mono ?_
  rintro e w' ⟨rfl, rfl⟩
  go_wp2_with fail
  have h := times_any 87 131 W (by decide) (by decide)
  rw [h57] at h
  refine h.mono ?_
  rintro e w' ⟨rfl, rfl⟩
  clear h
  go_wp2_with fail
  refine (rtimes_any a b _ HA.out HB.out).mono ?_
  rintro e w' ⟨rfl, rfl⟩
  go_wp2_with fail
  go_ret
  exact ⟨rfl, Fr.refl _ _⟩
theorem aesField_walk (W : World) (a b c : Nat) (ha : a < 256) (hb : b < 256) (hc : c < 256) : Calls Try.prog 4 #[.int .u8 (a : Int), .int .u8 (b : Int), .int .u8 (c : Int)] W fun e w' => e = .returned (.bool true) ∧ Fr No W w' := by
  have HA := hid ha; have HB := hid hb; have HC := hid hc; clear ha hb hc
  have h1 := times_any a b W HA.out HB.out
  have h2 := times_any b a W HB.out HA.out
  have h3 := times_any b c W HB.out HC.out
  have h4 := times_any a c W HA.out HC.out
  have h5 := times_any (times a b) c W (times_lt HA.out b) HC.out
  have h6 := times_any a (times b c) W HA.out (times_lt HB.out c)
  have h7 := times_any (a ^^^ b) c W (xor_lt HA.out HB.out) HC.out
  have h8 := times_any a 1 W HA.out (by decide)
  rw [← times_assoc HA.out HB.out HC.out] at h6
  rw [times_comm HB.out HA.out] at h2
  rw [times_left HA.out HB.out] at h7
  rw [times_one HA.out] at h8
  have x1 := xor8 HA.out HB.out
  have x2 := xor8 (times_lt HA.out c) (times_lt HB.out c)
  have H1 := hid h1; have H2 := hid h2; have H3 := hid h3; have H4 := hid h4; have H5 := hid h5; have H6 := hid h6; have H7 := hid h7; have H8 := hid h8
  clear h1 h2 h3 h4 h5 h6 h7 h8
  go_enter Try.func4, Try.ntmps4
  go_wp2_with fail
  refine H1.out.mono ?_
  rintro e w' ⟨rfl, rfl⟩
  go_wp2_with fail
  refine H2.out.mono ?_
  rintro e w' ⟨rfl, rfl⟩
  go_wp2_with fail
  refine H3.out.mono ?_
  rintro e w' ⟨rfl, rfl⟩
  go_wp2_with fail
  refine H4.out.mono ?_
  rintro e w' ⟨rfl, rfl⟩
  go_wp2_with fail
  refine H5.out.mono ?_
  rintro e w' ⟨rfl, rfl⟩
  go_wp2_with fail
  refine H6.out.mono ?_
  rintro e w' ⟨rfl, rfl⟩
  go_wp2_with fail
  refine H7.out.mono ?_
  rintro e w' ⟨rfl, rfl⟩
  go_wp2_with fail
  refine H8.out.mono ?_
  rintro e w' ⟨rfl, rfl⟩
  go_wp2_with fail
  go_ret
  exact ⟨rfl, Fr.refl _ _⟩
theorem aesBox_walk (W : World) (b : Nat) (hb : b < 256) : Calls Try.prog 5 #[.int .u8 (b : Int)] W fun e w' => e = .returned (.bool true) ∧ Fr No W w' := by
  have HB := hid hb; clear hb
  go_enter Try.func5, Try.ntmps5
  go_wp2_with fail
  refine (box_any b _ HB.out).mono ?_
  rintro e w' ⟨rfl, rfl⟩
  go_wp2_with fail
  refine (rbox_any b _ HB.out).mono ?_
  rintro e w' ⟨rfl, rfl⟩
  go_wp2_with fail
  go_ret
  exact ⟨rfl, Fr.refl _ _⟩
theorem aesBoxes_walk (W : World) (a b : Nat) (ha : a < 256) (hb : b < 256) : Calls Try.prog 6 #[.int .u8 (a : Int), .int .u8 (b : Int)] W fun e w' => e = .returned (.bool true) ∧ Fr No W w' := by
  have HA := hid ha; have HB := hid hb; clear ha hb
  go_enter Try.func6, Try.ntmps6
  go_wp2_with fail
  refine (box_any a _ HA.out).mono ?_
  rintro e w' ⟨rfl, rfl⟩
  go_wp2_with fail
  refine (box_any b _ HB.out).mono ?_
  rintro e w' ⟨rfl, rfl⟩
  have he : (((box a : Nat) : Int) == ((box b : Nat) : Int)) = ((a : Int) == (b : Int)) := by
    rw [Bool.eq_iff_iff, beq_iff_eq, beq_iff_eq]
    have := box_inj HA.out HB.out
    omega
  have hn1 : (((box a : Nat) : Int) != (a : Int)) = true := by
    have := (box_ne HA.out).1
    rw [bne_iff_ne]; omega
  have hn2 : (((box a : Nat) : Int) != 255 - (a : Int)) = true := by
    have := (box_ne HA.out).2
    have := HA.out
    rw [bne_iff_ne]; omega
  have hal : (a : Int) < 256 := by have := HA.out; omega
  go_wp2_with fail
  go_ret
  exact ⟨rfl, Fr.refl _ _⟩
end Go.Proofs.Ytgbcddhgeepjgaa.AE
