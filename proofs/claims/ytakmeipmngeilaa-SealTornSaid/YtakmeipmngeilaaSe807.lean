/-
  Part 7 of the proof: AesB, AesC, AesA, AesK.
-/
import Derived.Test.YtakmeipmngeilaaSe806
import Derived.Test.YtakmeipmngeilaaSe802
set_option linter.unusedVariables false
set_option linter.unusedSimpArgs false
namespace Go.Proofs.Ytakmeipmngeilaa.AE
set_option maxRecDepth 100000
open Go.RowKit K

theorem inv_any (b : Nat) (w : World) (hb : b < 256) : Calls Try.prog 86 #[.int .u8 (b : Int)] w fun e w' =>
    e = .returned (.int .u8 (inv b : Nat)) ∧ w = w' := by
  have HB := hid hb; clear hb
  go_enter Try.func86, Try.ntmps86
  go_wp2_with fail
  go_loopw [0, 3, 4] (fun x p k wr => ∃ n : Nat, n ≤ 7 ∧ k = .int .i64 n ∧ x = .int .u8 ((pr n b).2 : Nat) ∧ p = .int .u8 ((pr n b).1 : Nat) ∧ w = wr) (fun _ _ k _ => 7 - (intOf k).toNat)
  case atStart => exact ⟨0, by omega, rfl, rfl, rfl, rfl⟩
  case round =>
    obtain ⟨n, hn, rfl, rfl, rfl, rfl⟩ := hrel
    by_cases hlt : n < 7
    · go_wp2_with fail
      refine (times_any _ _ _ (pr_lt HB.out n).2 (pr_lt HB.out n).2).mono ?_
      rintro e w' ⟨rfl, rfl⟩
      go_wp2_with fail
      refine (times_any _ _ _ (pr_lt HB.out n).1 (times_lt (pr_lt HB.out n).2 _)).mono ?_
      rintro e w' ⟨rfl, rfl⟩
      go_wp2_with fail
      go_roundw
      case rel => exact ⟨n + 1, by omega, by go_num, rfl, rfl, trivial⟩
      case measure => simp [intOf]; omega
    · obtain rfl : n = 7 := by omega
      go_wp2_with fail
      go_ret
      exact ⟨rfl, rfl⟩
theorem box_any (b : Nat) (w : World) (hb : b < 256) : Calls Try.prog 77 #[.int .u8 (b : Int)] w fun e w' =>
    e = .returned (.int .u8 (box b : Nat)) ∧ w = w' := by
  have HB := hid hb; clear hb
  go_enter Try.func77, Try.ntmps77
  go_wp2_with fail
  refine (inv_any b _ HB.out).mono ?_
  rintro e w' ⟨rfl, rfl⟩
  have HI := hid (inv_lt HB.out)
  go_wp2_with fail
  refine (rot_any (inv b) 4 _ HI.out (by decide) (by decide)).mono ?_
  rintro e w' ⟨rfl, rfl⟩
  go_wp2_with fail
  refine (rot_any (inv b) 3 _ HI.out (by decide) (by decide)).mono ?_
  rintro e w' ⟨rfl, rfl⟩
  go_wp2_with fail
  refine (rot_any (inv b) 2 _ HI.out (by decide) (by decide)).mono ?_
  rintro e w' ⟨rfl, rfl⟩
  go_wp2_with fail
  refine (rot_any (inv b) 1 _ HI.out (by decide) (by decide)).mono ?_
  rintro e w' ⟨rfl, rfl⟩
  go_wp2_with fail
  go_ret
  refine ⟨?_, rfl⟩
  have h4 := rotl_lt (k := 4) HI.out; have h3 := rotl_lt (k := 3) HI.out; have h2 := rotl_lt (k := 2) HI.out; have h1 := rotl_lt (k := 1) HI.out
  show Ending.returned (.int .u8 (bits .xor .u8 (bits .xor .u8 (bits .xor .u8 (bits .xor .u8 (bits .xor .u8 (inv b : Nat) (rotl 4 (inv b) : Nat)) (rotl 3 (inv b) : Nat)) (rotl 2 (inv b) : Nat)) (rotl 1 (inv b) : Nat)) ((99 : Nat) : Int))) = _
  rw [xor8 HI.out h4, xor8 (xor_lt HI.out h4) h3, xor8 (xor_lt (xor_lt HI.out h4) h3) h2, xor8 (xor_lt (xor_lt (xor_lt HI.out h4) h3) h2) h1, xor8 (xor_lt (xor_lt (xor_lt (xor_lt HI.out h4) h3) h2) h1) (by decide)]
  rfl
theorem rinv_any (b : Nat) (w : World) (hb : b < 256) : Calls Try.prog 39 #[.int .u8 (b : Int)] w fun e w' =>
    e = .returned (.int .u8 (inv b : Nat)) ∧ w = w' := by
  have HB := hid hb
  have HF := hid (find_all hb); clear hb
  go_enter Try.func39, Try.ntmps39
  go_wp2_with fail
  go_loopw [3] (fun k wr => ∃ n : Nat, 1 ≤ n ∧ n ≤ 256 ∧ k = .int .i64 n ∧ w = wr ∧ Hid (find b n (256 - n) = inv b)) (fun k _ => 256 - (intOf k).toNat)
  case atStart => exact ⟨1, by omega, by omega, rfl, rfl, HF⟩
  case round =>
    obtain ⟨n, h1, h2, rfl, rfl, hF⟩ := hrel
    by_cases hlt : n < 256
    · have hw : ((n : Int) % 256) = (n : Int) := by omega
      go_wp2_with fail
      refine (rtimes_any b n _ HB.out hlt).mono ?_
      rintro e w' ⟨rfl, rfl⟩
      have hF' := hF.out
      rw [show 256 - n = 255 - n + 1 by omega, find] at hF'
      by_cases he : times b n = 1
      · rw [if_pos he] at hF'
        have HE := hid he; have HF' := hid hF'; clear hF' he
        have hc : (((times b n : Nat) : Int) == 1) = true := by rw [HE.out]; rfl
        go_wp2_with fail
        go_ret
        refine ⟨?_, rfl⟩
        rw [← HF'.out]
        try rfl
      · rw [if_neg he] at hF'
        have HE := hid he; have HF' := hid hF'; clear hF' he
        have hc : (((times b n : Nat) : Int) == 1) = false := by
          have := HE.out
          simp; omega
        go_wp2_with fail
        go_roundw
        case rel => exact ⟨n + 1, by omega, by omega, by go_num, trivial, hid (by rw [show 256 - (n + 1) = 255 - n by omega]; exact HF'.out)⟩
        case measure => simp [intOf]; omega
    · obtain rfl : n = 256 := by omega
      go_wp2_with fail
      go_ret
      refine ⟨?_, rfl⟩
      have := hF.out
      rw [show (256 - 256 : Nat) = 0 by decide, find] at this
      rw [← this]
      rfl
/-- The sum of a bit's parts, from the fourth on. -/
def rsum (r k : Nat) : Nat → Nat
  | 0 => 99 / 2 ^ k % 2
  | n + 1 => rsum r k n + r / 2 ^ ((k + (4 + n)) % 8) % 2
theorem rsum_eq (r k : Nat) : rsum r k 5 = rbit r k := rfl
theorem rsum_le (r k : Nat) : ∀ n, rsum r k n ≤ n + 1
  | 0 => by simp only [rsum]; omega
  | n + 1 => by
    have := rsum_le r k n
    simp only [rsum]; omega
theorem rbox_le (r : Nat) : ∀ n, rbox r n ≤ 2 ^ n - 1
  | 0 => by simp [rbox]
  | n + 1 => by
    have := rbox_le r n
    have h2 := Nat.two_pow_pos n
    simp only [rbox, Nat.pow_succ]
    split <;> omega
theorem tmod2 (x n : Nat) : ((x : Int) / 2 ^ n).tmod 2 = ((x / 2 ^ n % 2 : Nat) : Int) := by
  have e1 : ((x : Int) / 2 ^ n) = ((x / 2 ^ n : Nat) : Int) := by simp
  rw [e1]
  generalize x / 2 ^ n = y
  rw [Int.tmod_eq_emod_of_nonneg (by omega)]
  omega
theorem rbox_any (b : Nat) (w : World) (hb : b < 256) : Calls Try.prog 35 #[.int .u8 (b : Int)] w fun e w' =>
    e = .returned (.int .u8 (box b : Nat)) ∧ w = w' := by
  have HB := hid hb; clear hb
  go_enter Try.func35, Try.ntmps35
  go_wp2_with fail
  refine (rinv_any b _ HB.out).mono ?_
  rintro e w' ⟨rfl, rfl⟩
  obtain ⟨r, hr⟩ : ∃ r, inv b = r := ⟨_, rfl⟩
  have HR := hid (hr ▸ inv_lt HB.out : r < 256)
  have HE := hid (show rbox r 8 = box b by rw [rbox_eq HR.out, ← hr]; rfl)
  rw [hr]
  clear hr
  have hw : wrap64 (r : Int) = r := w64 (by have := HR.out; omega)
  go_wp2_with fail
  go_loopw [4, 5] (fun o k wr => ∃ n : Nat, n ≤ 8 ∧ k = .int .i64 n ∧ o = .int .i64 (rbox r n : Nat) ∧ w = wr) (fun _ k _ => 8 - (intOf k).toNat)
  case atStart => exact ⟨0, by omega, rfl, rfl, rfl⟩
  case round =>
    obtain ⟨n, hn, rfl, rfl, rfl⟩ := hrel
    by_cases hlt : n < 8
    · have h99 : ((99 : Int) / 2 ^ n).tmod 2 = ((rsum r n 0 : Nat) : Int) := tmod2 99 n
      go_wp2_with fail
      go_loopw [6, 7] (fun o k wr => ∃ m : Nat, m ≤ 5 ∧ k = .int .i64 (4 + m : Nat) ∧ o = .int .i64 (rsum r n m : Nat) ∧ w = wr) (fun _ k _ => 9 - (intOf k).toNat)
      case atStart => exact ⟨0, by omega, rfl, rfl, rfl⟩
      case round =>
        obtain ⟨m, hm, rfl, rfl, rfl⟩ := hrel
        by_cases hlt2 : m < 5
        · have hl := rsum_le r n m
          have hb2 : (((n : Int) + ((4 + m : Nat) : Int)).tmod 8) = (((n + (4 + m)) % 8 : Nat) : Int) := by
            rw [Int.tmod_eq_emod_of_nonneg (by omega)]; omega
          have ht := tmod2 r ((n + (4 + m)) % 8)
          go_wp2_with fail
          go_roundw
          case rel => exact ⟨m + 1, by omega, by go_num, rfl, trivial⟩
          case measure => simp [intOf]; omega
        · obtain rfl : m = 5 := by omega
          have hl := rsum_le r n 5
          have hle := rbox_le r n
          have hp : 2 ^ n ≤ 128 := Nat.pow_le_pow_right (j := 7) (by decide) (by omega)
          have hsh : wrap64 (2 ^ n) = ((2 ^ n : Nat) : Int) := by
            have e : ((2 : Int) ^ n) = ((2 ^ n : Nat) : Int) := by simp
            rw [e]; exact w64 (by omega)
          have hs2 : wrap64 (((rbox r n : Nat) : Int) + 2 ^ n) = ((rbox r n + 2 ^ n : Nat) : Int) := by
            have e : (((rbox r n : Nat) : Int) + 2 ^ n) = ((rbox r n + 2 ^ n : Nat) : Int) := by simp
            rw [e]; exact w64 (by omega)
          by_cases hodd : rsum r n 5 % 2 = 1
          · have hs : rbox r (n + 1) = rbox r n + 2 ^ n := by
              rw [rsum_eq] at hodd
              simp [rbox, hodd]
            have HS := hid hs; have HO := hid hodd; clear hs hodd
            have hc : (((rsum r n 5 : Nat) : Int) % 2 == 1) = true := by
              have := HO.out
              rw [beq_iff_eq]; omega
            go_wp2_with fail
            go_roundw
            case rel => exact ⟨n + 1, by omega, by go_num, by first | rw [HS.out, ← hs2] | rw [HS.out], trivial⟩
            case measure => simp [intOf]; omega
          · have hs : rbox r (n + 1) = rbox r n := by
              rw [rsum_eq] at hodd
              simp [rbox, hodd]
            have HS := hid hs; have HO := hid hodd; clear hs hodd
            have hc : (((rsum r n 5 : Nat) : Int) % 2 == 1) = false := by
              have := HO.out
              rw [beq_eq_false_iff_ne]; omega
            go_wp2_with fail
            go_roundw
            case rel => exact ⟨n + 1, by omega, by go_num, by first | rw [HS.out, ← hs2] | rw [HS.out], trivial⟩
            case measure => simp [intOf]; omega
    · obtain rfl : n = 8 := by omega
      go_wp2_with fail
      go_ret
      refine ⟨?_, rfl⟩
      have hle := rbox_le r 8
      have hb8 := HE.out
      show Ending.returned (.int .u8 (((rbox r 8 : Nat) : Int) % 256)) = _
      rw [← hb8, show (((rbox r 8 : Nat) : Int) % 256) = ((rbox r 8 : Nat) : Int) by omega]
end Go.Proofs.Ytakmeipmngeilaa.AE

set_option linter.unusedVariables false
set_option linter.unusedSimpArgs false
namespace Go.Proofs.Ytakmeipmngeilaa.AE
set_option maxRecDepth 100000
/-! ### Blocks, as functions; what counts is below 16 -/
def By (f : Nat → Nat) : Prop := ∀ i, f i < 256
def E (f g : Nat → Nat) : Prop := ∀ i, i < 16 → f i = g i
def comb (f k : Nat → Nat) : Nat → Nat := fun i => f i ^^^ k i
def rep (g : Nat → Nat) (f : Nat → Nat) : Nat → Nat := fun i => g (f i)
def trn (t : Nat) (f : Nat → Nat) : Nat → Nat := fun i => f ((i + 4 * (i % 4) * t) % 16)
/-- n of the four products of place i. -/
def mxs (v f : Nat → Nat) (i : Nat) : Nat → Nat
  | 0 => 0
  | n + 1 => mxs v f i n ^^^ times (v n) (f (i - i % 4 + (i + n) % 4))
def mx (v f : Nat → Nat) : Nat → Nat := fun i => mxs v f i 4
def wt (a b c d : Nat) : Nat → Nat
  | 0 => a
  | 1 => b
  | 2 => c
  | 3 => d
  | _ => 0
theorem By.comb {f k : Nat → Nat} (hf : By f) (hk : By k) : By (comb f k) := fun i => xor_lt (hf i) (hk i)
theorem By.rep {f g : Nat → Nat} (hg : ∀ a, a < 256 → g a < 256) (hf : By f) : By (rep g f) := fun i => hg _ (hf i)
theorem By.trn {f : Nat → Nat} (t : Nat) (hf : By f) : By (trn t f) := fun _ => hf _
theorem mxs_lt {v f : Nat → Nat} (hv : By v) (i : Nat) : ∀ n, mxs v f i n < 256
  | 0 => by simp [mxs]
  | n + 1 => xor_lt (mxs_lt hv i n) (times_lt (hv n) _)
theorem By.mx {v f : Nat → Nat} (hv : By v) : By (mx v f) := fun i => mxs_lt hv i 4
theorem wt_by {a b c d : Nat} (ha : a < 256) (hb : b < 256) (hc : c < 256) (hd : d < 256) : By (wt a b c d) := fun i => by
  unfold wt
  split <;> first | assumption | decide

theorem E.refl (f : Nat → Nat) : E f f := fun _ _ => rfl
theorem E.symm {f g : Nat → Nat} (h : E f g) : E g f := fun i hi => (h i hi).symm
theorem E.trans {f g k : Nat → Nat} (h : E f g) (h' : E g k) : E f k := fun i hi => (h i hi).trans (h' i hi)
theorem E.comb {f g k l : Nat → Nat} (h : E f g) (h' : E k l) : E (comb f k) (comb g l) := fun i hi => by
  show f i ^^^ k i = _
  rw [h i hi, h' i hi]
  rfl
theorem E.rep {f g u : Nat → Nat} (h : E f g) : E (rep u f) (rep u g) := fun i hi => by
  show u (f i) = _
  rw [h i hi]
  rfl
theorem E.trn {f g : Nat → Nat} (t : Nat) (h : E f g) : E (trn t f) (trn t g) := fun i hi => h _ (Nat.mod_lt _ (by decide))
theorem mxs_congr {f g : Nat → Nat} (v : Nat → Nat) (h : E f g) {i : Nat} (hi : i < 16) : ∀ n, mxs v f i n = mxs v g i n
  | 0 => rfl
  | n + 1 => by
    show mxs v f i n ^^^ times (v n) (f (i - i % 4 + (i + n) % 4)) = _
    rw [mxs_congr v h hi n, h _ (by omega)]
    rfl
theorem E.mx {f g : Nat → Nat} (v : Nat → Nat) (h : E f g) : E (mx v f) (mx v g) := fun _ hi => mxs_congr v h hi 4

theorem sixteen {p : Nat → Prop} (h0 : p 0) (h1 : p 1) (h2 : p 2) (h3 : p 3) (h4 : p 4) (h5 : p 5) (h6 : p 6) (h7 : p 7) (h8 : p 8) (h9 : p 9) (h10 : p 10) (h11 : p 11) (h12 : p 12) (h13 : p 13) (h14 : p 14) (h15 : p 15) : ∀ i, i < 16 → p i := by
  intro i hi
  match i, hi with
  | 0, _ => exact h0
  | 1, _ => exact h1
  | 2, _ => exact h2
  | 3, _ => exact h3
  | 4, _ => exact h4
  | 5, _ => exact h5
  | 6, _ => exact h6
  | 7, _ => exact h7
  | 8, _ => exact h8
  | 9, _ => exact h9
  | 10, _ => exact h10
  | 11, _ => exact h11
  | 12, _ => exact h12
  | 13, _ => exact h13
  | 14, _ => exact h14
  | 15, _ => exact h15
  | n + 16, hi => exact absurd hi (by omega)
theorem comb_comb (f k : Nat → Nat) : comb (comb f k) k = f := by
  funext i
  show f i ^^^ k i ^^^ k i = f i
  rw [Nat.xor_assoc, Nat.xor_self, Nat.xor_zero]
theorem trn_back (f : Nat → Nat) : E (trn 3 (trn 1 f)) f := sixteen rfl rfl rfl rfl rfl rfl rfl rfl rfl rfl rfl rfl rfl rfl rfl rfl
theorem trn_forth (f : Nat → Nat) : E (trn 1 (trn 3 f)) f := sixteen rfl rfl rfl rfl rfl rfl rfl rfl rfl rfl rfl rfl rfl rfl rfl rfl
theorem rep_back {f : Nat → Nat} (h : By f) : rep unbox (rep box f) = f := funext fun i => unbox_box (h i)
theorem rep_forth {f : Nat → Nat} (h : By f) : rep box (rep unbox f) = f := funext fun i => box_unbox (h i)

/-! ### Columns -/
def col (p q r s a b c d : Nat) : Nat := 0 ^^^ times p a ^^^ times q b ^^^ times r c ^^^ times s d
theorem back_base : ((List.range 256).all fun a =>
    (times 14 (times 2 a) ^^^ times 11 (times 1 a) ^^^ times 13 (times 1 a) ^^^ times 9 (times 3 a) == a) &&
    (times 14 (times 3 a) ^^^ times 11 (times 2 a) ^^^ times 13 (times 1 a) ^^^ times 9 (times 1 a) == 0) &&
    (times 14 (times 1 a) ^^^ times 11 (times 3 a) ^^^ times 13 (times 2 a) ^^^ times 9 (times 1 a) == 0) &&
    (times 14 (times 1 a) ^^^ times 11 (times 1 a) ^^^ times 13 (times 3 a) ^^^ times 9 (times 2 a) == 0) &&
    (times 2 (times 14 a) ^^^ times 3 (times 9 a) ^^^ times 1 (times 13 a) ^^^ times 1 (times 11 a) == a) &&
    (times 2 (times 11 a) ^^^ times 3 (times 14 a) ^^^ times 1 (times 9 a) ^^^ times 1 (times 13 a) == 0) &&
    (times 2 (times 13 a) ^^^ times 3 (times 11 a) ^^^ times 1 (times 14 a) ^^^ times 1 (times 9 a) == 0) &&
    (times 2 (times 9 a) ^^^ times 3 (times 13 a) ^^^ times 1 (times 11 a) ^^^ times 1 (times 14 a) == 0)) = true := by decide +kernel
theorem four (a1 a2 a3 a4 b1 b2 b3 b4 c1 c2 c3 c4 d1 d2 d3 d4 : Nat) :
    (a1 ^^^ b1 ^^^ c1 ^^^ d1) ^^^ (b2 ^^^ c2 ^^^ d2 ^^^ a2) ^^^ (c3 ^^^ d3 ^^^ a3 ^^^ b3) ^^^ (d4 ^^^ a4 ^^^ b4 ^^^ c4) =
    (a1 ^^^ a2 ^^^ a3 ^^^ a4) ^^^ (b1 ^^^ b2 ^^^ b3 ^^^ b4) ^^^ (c1 ^^^ c2 ^^^ c3 ^^^ c4) ^^^ (d1 ^^^ d2 ^^^ d3 ^^^ d4) := by ac_rfl
theorem col_back {a b c d : Nat} (ha : a < 256) (hb : b < 256) (hc : c < 256) (hd : d < 256) :
    col 14 11 13 9 (col 2 3 1 1 a b c d) (col 2 3 1 1 b c d a) (col 2 3 1 1 c d a b) (col 2 3 1 1 d a b c) = a := by
  have h1 := at256 back_base ha; have h2 := at256 back_base hb; have h3 := at256 back_base hc; have h4 := at256 back_base hd
  simp only [Bool.and_eq_true, beq_iff_eq] at h1 h2 h3 h4
  simp only [col, Nat.zero_xor, times_right]
  rw [four, h1.1.1.1.1.1.1.1, h2.1.1.1.1.1.1.2, h3.1.1.1.1.1.2, h4.1.1.1.1.2]
  simp
theorem col_forth {a b c d : Nat} (ha : a < 256) (hb : b < 256) (hc : c < 256) (hd : d < 256) :
    col 2 3 1 1 (col 14 11 13 9 a b c d) (col 14 11 13 9 b c d a) (col 14 11 13 9 c d a b) (col 14 11 13 9 d a b c) = a := by
  have h1 := at256 back_base ha; have h2 := at256 back_base hb; have h3 := at256 back_base hc; have h4 := at256 back_base hd
  simp only [Bool.and_eq_true, beq_iff_eq] at h1 h2 h3 h4
  simp only [col, Nat.zero_xor, times_right]
  rw [four, h1.1.1.1.2, h2.1.1.2, h3.1.2, h4.2]
  simp
theorem mx_back {f : Nat → Nat} (h : By f) : E (mx (wt 14 11 13 9) (mx (wt 2 3 1 1) f)) f :=
  sixteen (col_back (h 0) (h 1) (h 2) (h 3)) (col_back (h 1) (h 2) (h 3) (h 0)) (col_back (h 2) (h 3) (h 0) (h 1)) (col_back (h 3) (h 0) (h 1) (h 2))
    (col_back (h 4) (h 5) (h 6) (h 7)) (col_back (h 5) (h 6) (h 7) (h 4)) (col_back (h 6) (h 7) (h 4) (h 5)) (col_back (h 7) (h 4) (h 5) (h 6))
    (col_back (h 8) (h 9) (h 10) (h 11)) (col_back (h 9) (h 10) (h 11) (h 8)) (col_back (h 10) (h 11) (h 8) (h 9)) (col_back (h 11) (h 8) (h 9) (h 10))
    (col_back (h 12) (h 13) (h 14) (h 15)) (col_back (h 13) (h 14) (h 15) (h 12)) (col_back (h 14) (h 15) (h 12) (h 13)) (col_back (h 15) (h 12) (h 13) (h 14))
theorem mx_forth {f : Nat → Nat} (h : By f) : E (mx (wt 2 3 1 1) (mx (wt 14 11 13 9) f)) f :=
  sixteen (col_forth (h 0) (h 1) (h 2) (h 3)) (col_forth (h 1) (h 2) (h 3) (h 0)) (col_forth (h 2) (h 3) (h 0) (h 1)) (col_forth (h 3) (h 0) (h 1) (h 2))
    (col_forth (h 4) (h 5) (h 6) (h 7)) (col_forth (h 5) (h 6) (h 7) (h 4)) (col_forth (h 6) (h 7) (h 4) (h 5)) (col_forth (h 7) (h 4) (h 5) (h 6))
    (col_forth (h 8) (h 9) (h 10) (h 11)) (col_forth (h 9) (h 10) (h 11) (h 8)) (col_forth (h 10) (h 11) (h 8) (h 9)) (col_forth (h 11) (h 8) (h 9) (h 10))
    (col_forth (h 12) (h 13) (h 14) (h 15)) (col_forth (h 13) (h 14) (h 15) (h 12)) (col_forth (h 14) (h 15) (h 12) (h 13)) (col_forth (h 15) (h 12) (h 13) (h 14))

/-! ### Round keys -/
def t0 (f : Nat → Nat) (c : Nat) : Nat → Nat := wt (box (f 13) ^^^ c) (box (f 14)) (box (f 15)) (box (f 12))
/-- The four bytes beside, behind n places. -/
def tS (t f : Nat → Nat) : Nat → Nat → Nat
  | 0 => t
  | n + 1 => fun r => if r = n % 4 then f n ^^^ tS t f n (n % 4) else tS t f n r
def fol (f : Nat → Nat) (c : Nat) : Nat → Nat := fun i => f i ^^^ tS (t0 f c) f i (i % 4)
def con : Nat → Nat
  | 0 => 1
  | n + 1 => times (con n) 2
def keys (k : Nat → Nat) : Nat → Nat → Nat
  | 0 => k
  | n + 1 => fol (keys k n) (con n)
theorem con_lt : ∀ n, con n < 256
  | 0 => by decide
  | n + 1 => times_lt (con_lt n) 2
theorem t0_by {f : Nat → Nat} {c : Nat} (hf : By f) (hc : c < 256) : By (t0 f c) := wt_by (xor_lt (box_lt (hf _)) hc) (box_lt (hf _)) (box_lt (hf _)) (box_lt (hf _))
theorem tS_lt {t f : Nat → Nat} (ht : By t) (hf : By f) : ∀ n, By (tS t f n)
  | 0 => ht
  | n + 1 => fun r => by
    show (if r = n % 4 then f n ^^^ tS t f n (n % 4) else tS t f n r) < 256
    split
    · exact xor_lt (hf n) (tS_lt ht hf n _)
    · exact tS_lt ht hf n r
theorem fol_by {f : Nat → Nat} {c : Nat} (hf : By f) (hc : c < 256) : By (fol f c) := fun i => xor_lt (hf i) (tS_lt (t0_by hf hc) hf i _)
theorem keys_by {k : Nat → Nat} (hk : By k) : ∀ n, By (keys k n)
  | 0 => hk
  | n + 1 => fol_by (keys_by hk n) (con_lt n)

/-! ### Blocks are turned, and turned back -/
def mixF (r : Nat) (f : Nat → Nat) : Nat → Nat := if r < 10 then mx (wt 2 3 1 1) f else f
def mixB (r : Nat) (f : Nat → Nat) : Nat → Nat := if r < 10 then mx (wt 14 11 13 9) f else f
/-- The block behind round r. -/
def st (k f : Nat → Nat) : Nat → Nat → Nat
  | 0 => comb f (keys k 0)
  | r + 1 => comb (mixF (r + 1) (trn 1 (rep box (st k f r)))) (keys k (r + 1))
def enc (k f : Nat → Nat) : Nat → Nat := st k f 10
/-- The way back, m rounds. -/
def ds (k f : Nat → Nat) : Nat → Nat → Nat
  | 0 => f
  | m + 1 => rep unbox (trn 3 (mixB (10 - m) (comb (ds k f m) (keys k (10 - m)))))
def dec (k f : Nat → Nat) : Nat → Nat := comb (ds k f 10) (keys k 0)
theorem mixF_by {f : Nat → Nat} (r : Nat) (h : By f) : By (mixF r f) := by
  unfold mixF; split
  · exact By.mx (wt_by (by decide) (by decide) (by decide) (by decide))
  · exact h
theorem mixB_by {f : Nat → Nat} (r : Nat) (h : By f) : By (mixB r f) := by
  unfold mixB; split
  · exact By.mx (wt_by (by decide) (by decide) (by decide) (by decide))
  · exact h
theorem E.mixF {f g : Nat → Nat} (r : Nat) (h : E f g) : E (mixF r f) (mixF r g) := by
  unfold Go.Proofs.Ytakmeipmngeilaa.AE.mixF; split
  · exact h.mx _
  · exact h
theorem E.mixB {f g : Nat → Nat} (r : Nat) (h : E f g) : E (mixB r f) (mixB r g) := by
  unfold Go.Proofs.Ytakmeipmngeilaa.AE.mixB; split
  · exact h.mx _
  · exact h
theorem mixB_mixF {f : Nat → Nat} (r : Nat) (h : By f) : E (mixB r (mixF r f)) f := by
  unfold mixB mixF; split
  · exact mx_back h
  · exact E.refl f
theorem mixF_mixB {f : Nat → Nat} (r : Nat) (h : By f) : E (mixF r (mixB r f)) f := by
  unfold mixB mixF; split
  · exact mx_forth h
  · exact E.refl f
theorem st_by {k f : Nat → Nat} (hk : By k) (hf : By f) : ∀ r, By (st k f r)
  | 0 => hf.comb (keys_by hk 0)
  | r + 1 => (mixF_by _ (((st_by hk hf r).rep fun _ h => box_lt h).trn 1)).comb (keys_by hk (r + 1))
theorem ds_by {k f : Nat → Nat} (hk : By k) (hf : By f) : ∀ r, By (ds k f r)
  | 0 => hf
  | m + 1 => ((mixB_by _ ((ds_by hk hf m).comb (keys_by hk (10 - m)))).trn 3).rep fun _ h => unbox_lt h
theorem enc_by {k f : Nat → Nat} (hk : By k) (hf : By f) : By (enc k f) := st_by hk hf 10
theorem dec_by {k f : Nat → Nat} (hk : By k) (hf : By f) : By (dec k f) := (ds_by hk hf 10).comb (keys_by hk 0)
theorem ds_st {k f : Nat → Nat} (hk : By k) (hf : By f) : ∀ m, m ≤ 10 → E (ds k (enc k f) m) (st k f (10 - m))
  | 0, _ => E.refl _
  | m + 1, h => by
    have ih := ds_st hk hf m (by omega)
    obtain ⟨r, hr⟩ : ∃ r, 10 - m = r + 1 := ⟨9 - m, by omega⟩
    have hr' : 10 - (m + 1) = r := by omega
    show E (rep unbox (trn 3 (mixB (10 - m) (comb (ds k (enc k f) m) (keys k (10 - m)))))) _
    rw [hr] at ih ⊢
    rw [hr']
    have hb := (st_by hk hf r).rep (g := box) fun _ h => box_lt h
    have h1 : E (comb (ds k (enc k f) m) (keys k (r + 1))) (mixF (r + 1) (trn 1 (rep box (st k f r)))) := by
      have := ih.comb (E.refl (keys k (r + 1)))
      rwa [show st k f (r + 1) = comb (mixF (r + 1) (trn 1 (rep box (st k f r)))) (keys k (r + 1)) from rfl, comb_comb] at this
    have h2 := (((h1.mixB (r + 1)).trans (mixB_mixF (r + 1) (hb.trn 1))).trn 3).trans (trn_back _)
    have h3 := h2.rep (u := unbox)
    rwa [rep_back (st_by hk hf r)] at h3
theorem dec_enc {k f : Nat → Nat} (hk : By k) (hf : By f) : E (dec k (enc k f)) f := by
  have := (ds_st hk hf 10 (by decide)).comb (E.refl (keys k 0))
  rwa [show st k f (10 - 10) = comb f (keys k 0) from rfl, comb_comb] at this
theorem st_ds {k f : Nat → Nat} (hk : By k) (hf : By f) : ∀ r, r ≤ 10 → E (st k (dec k f) r) (ds k f (10 - r))
  | 0, _ => by
    show E (comb (comb (ds k f 10) (keys k 0)) (keys k 0)) _
    rw [comb_comb]
    exact E.refl _
  | r + 1, h => by
    have ih := st_ds hk hf r (by omega)
    obtain ⟨m, hm⟩ : ∃ m, 10 - r = m + 1 := ⟨9 - r, by omega⟩
    have hm' : 10 - (r + 1) = m := by omega
    have hm2 : 10 - m = r + 1 := by omega
    show E (comb (mixF (r + 1) (trn 1 (rep box (st k (dec k f) r)))) (keys k (r + 1))) _
    rw [hm] at ih
    rw [hm']
    have hb := (ds_by hk hf m).comb (keys_by hk (r + 1))
    have e : ds k f (m + 1) = rep unbox (trn 3 (mixB (r + 1) (comb (ds k f m) (keys k (r + 1))))) := by
      show rep unbox (trn 3 (mixB (10 - m) (comb (ds k f m) (keys k (10 - m))))) = _
      rw [hm2]
    rw [e] at ih
    have h1 := ih.rep (u := box)
    rw [rep_forth ((mixB_by _ hb).trn 3)] at h1
    have h2 := (((h1.trn 1).trans (trn_forth _)).mixF (r + 1)).trans (mixF_mixB (r + 1) hb)
    have h3 := h2.comb (E.refl (keys k (r + 1)))
    rwa [comb_comb] at h3
theorem enc_dec {k f : Nat → Nat} (hk : By k) (hf : By f) : E (enc k (dec k f)) f := st_ds hk hf 10 (by decide)
theorem E.st {k f g : Nat → Nat} (h : E f g) : ∀ r, E (st k f r) (st k g r)
  | 0 => h.comb (E.refl _)
  | r + 1 => ((((E.st h r).rep).trn 1).mixF (r + 1)).comb (E.refl _)
theorem E.ds {k f g : Nat → Nat} (h : E f g) : ∀ r, E (ds k f r) (ds k g r)
  | 0 => h
  | r + 1 => ((((E.ds h r).comb (E.refl _)).mixB (10 - r)).trn 3).rep
theorem E.dec {k f g : Nat → Nat} (h : E f g) : E (dec k f) (dec k g) := (h.ds 10).comb (E.refl _)
/-- Unlike blocks stay unlike. -/
theorem enc_inj {k f g : Nat → Nat} (hk : By k) (hf : By f) (hg : By g) : E (enc k f) (enc k g) ↔ E f g :=
  ⟨fun h => ((dec_enc hk hf).symm.trans h.dec).trans (dec_enc hk hg), fun h => h.st 10⟩
end Go.Proofs.Ytakmeipmngeilaa.AE

set_option linter.unusedVariables false
set_option linter.unusedSimpArgs false
namespace Go.Proofs.Ytakmeipmngeilaa.AE
set_option maxRecDepth 100000
open Go.RowKit K

/-- n bytes, as cells. -/
def b8 (f : Nat → Nat) (n : Nat) : List Value := (List.range n).map fun i => .int .u8 (f i : Int)
def bk (f : Nat → Nat) (n : Nat) : Value := .agg (b8 f n).toArray
/-- Another byte at place i. -/
def upd (f : Nat → Nat) (i x : Nat) : Nat → Nat := fun j => if j = i then x else f j
/-- g as far as n, f behind it. -/
def upto (n : Nat) (g f : Nat → Nat) : Nat → Nat := fun j => if j < n then g j else f j
/-- m bytes from place o on. -/
def over (f : Nat → Nat) (o m : Nat) (g : Nat → Nat) : Nat → Nat := fun j => if o ≤ j ∧ j < o + m then g (j - o) else f j
@[simp] theorem b8_length (f : Nat → Nat) (n : Nat) : (b8 f n).length = n := by simp [b8]
theorem b8_get (f : Nat → Nat) {i n : Nat} (h : i < n) : (b8 f n)[i]? = some (.int .u8 (f i : Int)) := by simp [b8, h]
theorem b8_congr {f g : Nat → Nat} {n : Nat} (h : ∀ i, i < n → f i = g i) : b8 f n = b8 g n := by
  unfold b8
  refine List.map_congr_left fun i hi => ?_
  rw [h i (List.mem_range.1 hi)]
theorem E.b8 {f g : Nat → Nat} (h : E f g) : AE.b8 f 16 = AE.b8 g 16 := b8_congr h
theorem b8_inj {f g : Nat → Nat} {n : Nat} (h : b8 f n = b8 g n) : ∀ i, i < n → f i = g i := fun i hi => by
  have h1 := b8_get f hi
  rw [h, b8_get g hi] at h1
  have : ((g i : Nat) : Int) = (f i : Nat) := by simpa using h1
  omega
theorem b8_set (f : Nat → Nat) (n i x : Nat) : (b8 f n).set i (.int .u8 (x : Int)) = b8 (upd f i x) n := by
  refine List.ext_getElem? fun j => ?_
  by_cases hj : j < n
  · rw [b8_get _ hj, List.getElem?_set]
    unfold upd
    by_cases e : i = j
    · subst e; simp [hj]
    · rw [if_neg e, if_neg (fun h => e h.symm), b8_get _ hj]
  · rw [List.getElem?_eq_none (by simp; omega), List.getElem?_eq_none (by simp; omega)]
theorem b8_spl (f g : Nat → Nat) {n o m : Nat} (h : o + m ≤ n) : spl (b8 f n) o (b8 g m) = b8 (over f o m g) n := by
  refine List.ext_getElem? fun j => ?_
  unfold spl over
  by_cases hj : j < n
  · rw [b8_get _ hj]
    by_cases h1 : j < o
    · rw [List.append_assoc, List.getElem?_append_left (by simp; omega), List.getElem?_take, if_pos h1, b8_get _ hj, if_neg (by omega)]
    · by_cases h2 : j < o + m
      · rw [List.append_assoc, List.getElem?_append_right (by simp; omega), List.getElem?_append_left (by simp; omega), if_pos ⟨by omega, h2⟩]
        simp only [List.length_take, b8_length, Nat.min_eq_left (show o ≤ n by omega)]
        rw [b8_get _ (by omega)]
      · rw [List.getElem?_append_right (by simp; omega), if_neg (by omega)]
        simp only [List.length_append, List.length_take, b8_length, Nat.min_eq_left (show o ≤ n by omega), List.getElem?_drop]
        rw [show o + m + (j - (o + m)) = j by omega, b8_get _ hj]
  · rw [List.getElem?_eq_none (by simp; omega), List.getElem?_eq_none (by simp; omega)]
theorem b8_part (f : Nat → Nat) {n o m : Nat} (h : o + m ≤ n) : ((b8 f n).drop o).take m = b8 (fun i => f (o + i)) m := by
  refine List.ext_getElem? fun j => ?_
  rw [List.getElem?_take]
  by_cases hj : j < m
  · rw [if_pos hj, List.getElem?_drop, b8_get _ (by omega), b8_get _ hj]
  · rw [if_neg hj, List.getElem?_eq_none (by simp; omega)]
theorem b8_one (f : Nat → Nat) (n : Nat) : ∀ v ∈ b8 f n, v.oneCell' = true := by
  intro v hv
  obtain ⟨i, _, rfl⟩ := List.mem_map.1 hv
  rfl
theorem upto_zero (g f : Nat → Nat) : upto 0 g f = f := by funext j; simp [upto]
theorem upto_set (g f : Nat → Nat) (n : Nat) : upd (upto n g f) n (g n) = upto (n + 1) g f := by
  funext j
  unfold upd upto
  by_cases h : j = n
  · subst h; rw [if_pos rfl, if_pos (by omega)]
  · rw [if_neg h]
    by_cases h2 : j < n
    · rw [if_pos h2, if_pos (by omega)]
    · rw [if_neg h2, if_neg (by omega)]
theorem upto_get (g f : Nat → Nat) {n j : Nat} (h : n ≤ j) : upto n g f j = f j := by unfold upto; rw [if_neg (by omega)]
theorem upto_all (g f : Nat → Nat) (n : Nat) : b8 (upto n g f) n = b8 g n := b8_congr fun i hi => by unfold upto; rw [if_pos hi]
theorem upd_upd (f : Nat → Nat) (i x y : Nat) : upd (upd f i x) i y = upd f i y := by
  funext j; unfold upd; split <;> rfl
theorem upd_self (f : Nat → Nat) (i : Nat) : upd f i (f i) = f := by
  funext j; unfold upd; split
  · rename_i h; rw [h]
  · rfl
theorem upd_at (f : Nat → Nat) (i x : Nat) : upd f i x i = x := by simp [upd]
theorem upd_ne (f : Nat → Nat) {i j : Nat} (x : Nat) (h : j ≠ i) : upd f i x j = f j := by simp [upd, h]
/-- Rows of 16. -/
def fl (k : Nat → Nat → Nat) : Nat → Nat := fun j => k (j / 16) (j % 16)
theorem fl_part (k : Nat → Nat → Nat) (r : Nat) : b8 (fun i => fl k (16 * r + i)) 16 = b8 (k r) 16 := b8_congr fun i hi => by
  unfold fl
  rw [show (16 * r + i) / 16 = r by omega, show (16 * r + i) % 16 = i by omega]

section
variable {P : Program} {ops : Array Oper} {rest : List Oper} {op : Oper} {a : Act} {w : World} {Q : Exit → Act → World → Prop}
theorem blk_at {b : Nat} {t : TypeId} {f : Nat → Nat} {n : Nat} (h : Blk w b t (b8 f n)) {i : Nat} (hi : i < n) : w.cell? ⟨b, i, none⟩ = some (.int .u8 (f i : Int)) := by rw [h.cell, b8_get f hi]
theorem blk_row {b : Nat} {t : TypeId} {f : Nat → Nat} {n : Nat} (h : Blk w b t (b8 f n)) (o m : Nat) (hi : o + m ≤ n) : w.rangeAt b o (b8 (fun i => f (o + i)) m) := by
  have := h.range o (b8 (fun i => f (o + i)) m) (by rw [b8_length, b8_part f hi])
  exact this
theorem run_put (w : World) (b o : Nat) (ty : TypeId) (v : Value) (hv : v.cells = #[v]) (ht : w.there b o 1) (hi : (P.info? ty).map (·.size) = some 1) (h1 : v.oneCell' = true) :
    (storeVar ty ⟨b, o, none⟩ v).run P w = .ok () (w.setCells b o [v]) := by
  have := run_storeCells_cells (P := P) b o [v] 0 w (fun j hj => by simpa using (ht j (by simpa using hj)).1) (fun j hj => by simpa using (ht j (by simpa using hj)).2) (by simpa using h1)
  cases hq : P.info? ty with
  | none => simp [hq] at hi
  | some i =>
    have hi' : i.size = 1 := by simpa [hq] using hi
    simp [storeVar, sizeOf, typeInfo, hq, hi', hv, this]
/-- A byte is stored into a row that is known. -/
theorem wp_put {K : Act → World → Prop} (ty : TypeId) (x y : Operand) (ho : op.op = .store ty x y) (b o : Nat) (v : Nat) (hx : a.eval x = .pointer (some ⟨b, o, none⟩)) (hy : a.eval y = .int .u8 (v : Int))
    (t : TypeId) (f : Nat → Nat) (n : Nat) (hB : Blk w b t (b8 f n)) (hle : o < n) (hi : (P.info? ty).map (·.size) = some 1)
    (h : ∀ w', Hid (Blk w' b t (b8 (upd f o v) n)) → Hid (Fr (fun k => k = b) w w') → Hid (w'.heap.size = w.heap.size) → K (a.put op.dst undef) w') : op.wp P a w K Q := by
  have hS := hB.sets [.int .u8 (v : Int)] o (by simp; omega)
  have e : spl (b8 f n) o [.int .u8 (v : Int)] = b8 (upd f o v) n := by
    rw [← b8_set, ← spl_cons _ _ _ _ (by simpa using hle), spl_nil]
  rw [e] at hS
  have hrun := run_put w b o ty (.int .u8 (v : Int)) rfl (hB.there o 1 (by simp; omega)) hi rfl
  unfold Oper.wp execOp
  simp only [ho, hx, hy, Instr.storeAt, Instr.sureAddr, Sem.run_bind, Sem.run_pure, Result.andThen_ok, hrun]
  exact h _ (hid hS) (hid ((Fr.refl (fun k => k = b) w).setCells b o _ (.inl rfl))) (hid (by simp))
theorem wpL_put (hgd : op.guard = none) (ty : TypeId) (x y : Operand) (ho : op.op = .store ty x y) (b o : Nat) (v : Nat) (hx : a.eval x = .pointer (some ⟨b, o, none⟩)) (hy : a.eval y = .int .u8 (v : Int))
    (t : TypeId) (f : Nat → Nat) (n : Nat) (hB : Blk w b t (b8 f n)) (hle : o < n) (hi : (P.info? ty).map (·.size) = some 1)
    (h : ∀ w', Hid (Blk w' b t (b8 (upd f o v) n)) → Hid (Fr (fun k => k = b) w w') → Hid (w'.heap.size = w.heap.size) → wpList P ops Q rest (a.put op.dst undef) w') : wpList P ops Q (op :: rest) a w :=
  wpList_plain hgd fun _ hK => wp_put ty x y ho b o v hx hy t f n hB hle hi fun w' p q r => hK _ _ (h w' p q r)
/-- A row of bytes is stored into a row that is known. -/
theorem wp_row {K : Act → World → Prop} (ty : TypeId) (x y : Operand) (ho : op.op = .store ty x y) (b o : Nat) (g : Nat → Nat) (m : Nat) (hx : a.eval x = .pointer (some ⟨b, o, none⟩)) (hy : a.eval y = bk g m)
    (t : TypeId) (f : Nat → Nat) (n : Nat) (hB : Blk w b t (b8 f n)) (hle : o + m ≤ n) (hi : (P.info? ty).map (·.size) = some m)
    (h : ∀ w', Hid (Blk w' b t (b8 (over f o m g) n)) → Hid (Fr (fun k => k = b) w w') → Hid (w'.heap.size = w.heap.size) → K (a.put op.dst undef) w') : op.wp P a w K Q :=
  wp_storeB ty x y ho b o (b8 g m) hx hy t (b8 f n) hB (by simpa using hle) (by simpa using hi) (b8_one g m) fun w' p q r => h w' (hid (by have := p.out; rwa [b8_spl f g hle] at this)) q r
theorem wpL_row (hgd : op.guard = none) (ty : TypeId) (x y : Operand) (ho : op.op = .store ty x y) (b o : Nat) (g : Nat → Nat) (m : Nat) (hx : a.eval x = .pointer (some ⟨b, o, none⟩)) (hy : a.eval y = bk g m)
    (t : TypeId) (f : Nat → Nat) (n : Nat) (hB : Blk w b t (b8 f n)) (hle : o + m ≤ n) (hi : (P.info? ty).map (·.size) = some m)
    (h : ∀ w', Hid (Blk w' b t (b8 (over f o m g) n)) → Hid (Fr (fun k => k = b) w w') → Hid (w'.heap.size = w.heap.size) → wpList P ops Q rest (a.put op.dst undef) w') : wpList P ops Q (op :: rest) a w :=
  wpList_plain hgd fun _ hK => wp_row ty x y ho b o g m hx hy t f n hB hle hi fun w' p q r => hK _ _ (h w' p q r)
/-- The same over a whole row. -/
theorem over_all (f g : Nat → Nat) (n : Nat) : b8 (over f 0 n g) n = b8 g n := b8_congr fun i hi => by unfold over; rw [if_pos ⟨by omega, by omega⟩]; rfl
theorem wpL_whole (hgd : op.guard = none) (ty : TypeId) (x y : Operand) (ho : op.op = .store ty x y) (b : Nat) (g : Nat → Nat) (n : Nat) (hx : a.eval x = .pointer (some ⟨b, 0, none⟩)) (hy : a.eval y = bk g n)
    (t : TypeId) (f : Nat → Nat) (hB : Blk w b t (b8 f n)) (hi : (P.info? ty).map (·.size) = some n)
    (h : ∀ w', Hid (Blk w' b t (b8 g n)) → Hid (Fr (fun k => k = b) w w') → Hid (w'.heap.size = w.heap.size) → wpList P ops Q rest (a.put op.dst undef) w') : wpList P ops Q (op :: rest) a w :=
  wpL_row hgd ty x y ho b 0 g n hx hy t f n hB (by omega) hi fun w' p q r => h w' (hid (by have := p.out; rwa [over_all] at this)) q r
/-- A row of bytes is read. -/
theorem wpL_part (hgd : op.guard = none) (ty : TypeId) (x : Operand) (ho : op.op = .load ty x) (b o : Nat) (m : Nat) (hx : a.eval x = .pointer (some ⟨b, o, none⟩)) (t : TypeId) (f : Nat → Nat) (n : Nat) (d : TypeDesc) (hB : Blk w b t (b8 f n)) (hle : o + m ≤ n)
    (hu : P.underlying ty = some d) (hd : d.isRow = true) (hi : (P.info? ty).map (·.size) = some m) (h : wpList P ops Q rest (a.put op.dst (bk (fun i => f (o + i)) m)) w) : wpList P ops Q (op :: rest) a w :=
  wpL_load hgd ty x ho b o hx (b8 (fun i => f (o + i)) m) d (blk_row hB o m hle) hu hd (by simpa using hi) h
theorem wpL_all (hgd : op.guard = none) (ty : TypeId) (x : Operand) (ho : op.op = .load ty x) (b : Nat) (hx : a.eval x = .pointer (some ⟨b, 0, none⟩)) (t : TypeId) (f : Nat → Nat) (n : Nat) (d : TypeDesc) (hB : Blk w b t (b8 f n))
    (hu : P.underlying ty = some d) (hd : d.isRow = true) (hi : (P.info? ty).map (·.size) = some n) (h : wpList P ops Q rest (a.put op.dst (bk f n)) w) : wpList P ops Q (op :: rest) a w := by
  refine wpL_part hgd ty x ho b 0 n hx t f n d hB (by omega) hu hd hi ?_
  rw [show (fun i => f (0 + i)) = f by funext i; rw [Nat.zero_add]]
  exact h
/-- The same two, with what is read and what lies there behind in words of one's own. -/
theorem wpL_partG (hgd : op.guard = none) (ty : TypeId) (x : Operand) (ho : op.op = .load ty x) (b o : Nat) (m : Nat) (hx : a.eval x = .pointer (some ⟨b, o, none⟩)) (t : TypeId) (f g : Nat → Nat) (n : Nat) (d : TypeDesc) (hB : Blk w b t (b8 f n)) (hle : o + m ≤ n)
    (hg : ∀ i, i < m → f (o + i) = g i) (hu : P.underlying ty = some d) (hd : d.isRow = true) (hi : (P.info? ty).map (·.size) = some m) (h : wpList P ops Q rest (a.put op.dst (bk g m)) w) : wpList P ops Q (op :: rest) a w := by
  refine wpL_part hgd ty x ho b o m hx t f n d hB hle hu hd hi ?_
  rw [bk, b8_congr hg]
  exact h
theorem wpL_rowG (hgd : op.guard = none) (ty : TypeId) (x y : Operand) (ho : op.op = .store ty x y) (b o : Nat) (g : Nat → Nat) (m : Nat) (hx : a.eval x = .pointer (some ⟨b, o, none⟩)) (hy : a.eval y = bk g m)
    (t : TypeId) (f F : Nat → Nat) (n : Nat) (hB : Blk w b t (b8 f n)) (hle : o + m ≤ n) (hF : ∀ i, i < n → over f o m g i = F i) (hi : (P.info? ty).map (·.size) = some m)
    (h : ∀ w', Hid (Blk w' b t (b8 F n)) → Hid (Fr (fun k => k = b) w w') → Hid (w'.heap.size = w.heap.size) → wpList P ops Q rest (a.put op.dst undef) w') : wpList P ops Q (op :: rest) a w :=
  wpL_row hgd ty x y ho b o g m hx hy t f n hB hle hi fun w' p q r => h w' (hid (by have := p.out; rwa [b8_congr hF] at this)) q r
/-- A call of a function value, at the list of a plain region. -/
theorem wpL_callF (hgd : op.guard = none) (x : Operand) (args : List Operand) (tys : Array TypeId)
    (ho : op.op = .call { callee := .value x, args := args.toArray, argTypes := tys }) (f : FuncId) (cap : List Value) (hx : a.eval x = .func (.func f) #[] cap.toArray)
    (hent : ∀ (vs : Array Value) (w : World), (callFunc f vs).run P w = .ok (.enter f vs) w) (vs : List Value) (hvs : args.map a.eval ++ cap = vs)
    (hc : Calls P f vs.toArray w fun e w' => ∃ v, e = .returned v ∧ wpList P ops Q rest (a.put op.dst v) w') : wpList P ops Q (op :: rest) a w :=
  wpList_plain hgd fun _ hK => wp_call x args tys ho f cap hx hent vs hvs (hc.mono fun e w' ⟨v, h1, h2⟩ => ⟨v, h1, hK _ _ h2⟩)
end
end Go.Proofs.Ytakmeipmngeilaa.AE

set_option linter.unusedVariables false
set_option linter.unusedSimpArgs false
namespace Go.Proofs.Ytakmeipmngeilaa.AE
set_option maxRecDepth 100000
open Go.RowKit K

theorem zero16 (w : World) : (zeroValue 57).run Try.prog w = .ok (bk (fun _ => 0) 16) w := by kernel_rfl
theorem info16 : (Try.prog.info? 57).map (·.size) = some 16 := by kernel_rfl
theorem info1 : (Try.prog.info? 5).map (·.size) = some 1 := by kernel_rfl

theorem comb_any (f k : Nat → Nat) (w : World) (hf : By f) (hk : By k) : Calls Try.prog 74 #[bk f 16, bk k 16] w fun e w' =>
    e = .returned (bk (comb f k) 16) ∧ Fr No w w' := by
  have HF := hid hf; have HK := hid hk; clear hf hk
  go_enter Try.func74, Try.ntmps74
  go_wp2_with (first
    | ((with_reducible show wpList _ _ _ (⟨_, .box 57 _, _, _, _, _⟩ :: _) _ _); have := HB1; refine wpL_box rfl _ _ rfl (bk k 16) rfl (b8 k 16) rfl ?_; intro w2 HB2 HF2 HS2)
    | ((with_reducible show wpList _ _ _ (⟨_, .box 57 _, _, _, _, _⟩ :: _) _ _); refine wpL_box rfl _ _ rfl (bk f 16) rfl (b8 f 16) rfl ?_; intro w1 HB1 HF1 HS1)
    | ((with_reducible show wpList _ _ _ (⟨_, .alloc 57, _, _, _, _⟩ :: _) _ _); refine wpL_alloc rfl _ rfl _ zero16 (b8 (fun _ => 0) 16) rfl ?_; intro w3 HB3 HF3 HS3))
  have hB1 := (HB1.out.fr HF2.out id).fr HF3.out id
  have hB2 := HB2.out.fr HF3.out id
  have hB3 := HB3.out
  have hf3 := (HF1.out.trans' HF2.out).trans' HF3.out
  obtain ⟨b1, hb1⟩ : ∃ b, w.heap.size = b := ⟨_, rfl⟩
  obtain ⟨b2, hb2⟩ : ∃ b, w1.heap.size = b := ⟨_, rfl⟩
  obtain ⟨b3, hb3⟩ : ∃ b, w2.heap.size = b := ⟨_, rfl⟩
  have hs1 := HS1.out; have hs2 := HS2.out
  rw [hb1, hb2] at hs1; rw [hb2, hb3] at hs2
  rw [hb1] at hB1; rw [hb2] at hB2; rw [hb3] at hB3
  rw [hb1, hb2, hb3]
  have HW := hid hb1; have HN := hid (show b1 ≠ b2 ∧ b1 ≠ b3 ∧ b2 ≠ b3 by omega)
  have HR := hid (show Blk w3 b1 57 (b8 (upto 0 (comb f k) f) 16) ∧ Blk w3 b2 57 (b8 k 16) ∧ Blk w3 b3 57 (b8 (fun _ => 0) 16) ∧ Fr No w w3 by rw [upto_zero]; exact ⟨hB1, hB2, hB3, hf3⟩)
  have HG := hid (show w.heap.size ≤ b3 by omega)
  clear HB1 HB2 HB3 HF1 HF2 HF3 HS1 HS2 HS3 this hB1 hB2 hB3 hf3 hb1 hb2 hb3 hs1 hs2
  go_loopw [6] (fun i wr => ∃ n : Nat, n ≤ 16 ∧ i = .int .i64 n ∧ Hid (Blk wr b1 57 (b8 (upto n (comb f k) f) 16) ∧ Blk wr b2 57 (b8 k 16) ∧ Blk wr b3 57 (b8 (fun _ => 0) 16) ∧ Fr No w wr)) (fun i _ => 16 - (intOf i).toNat)
  case atStart => exact ⟨0, by omega, rfl, HR⟩
  case round =>
    clear HR
    obtain ⟨n, hn, rfl, HR⟩ := hrel
    by_cases hlt : n < 16
    · go_wp2_with fail
      have c1 := blk_at HR.out.1 hlt
      have c2 := blk_at HR.out.2.1 hlt
      rw [upto_get _ _ (Nat.le_refl n)] at c1
      have hold : Facts.hold [(2, fun w' => w'.cell? ⟨b1, n, none⟩ = some (.int .u8 (f n : Int))), (5, fun w' => w'.cell? ⟨b2, n, none⟩ = some (.int .u8 (k n : Int)))] wr.drew := Facts.cons_hold c1 (Facts.cons_hold c2 (Facts.nil_hold _))
      have hx : bits .xor .u8 (f n : Int) (k n : Int) = ((comb f k n : Nat) : Int) := xor8 (HF.out n) (HK.out n)
      refine wpD_region hold (by kernel_rfl) 9 rfl ?_
      (refine wpD_plain 0 (v := ?_) rfl (by kernel_rfl) (by kernel_rfl) (by kernel_rfl) (fun _ _ _ h => h) (by rfl) ?_ (by assumption) ?_; rotate_left; (intro _w; go_simp; try with_reducible rfl); simp only [Act.put, List.setIfInBounds_toArray, List.set_cons_zero, List.set_cons_succ])
      (refine wpD_plain 1 (v := ?_) rfl (by kernel_rfl) (by kernel_rfl) (by kernel_rfl) (fun _ _ _ h => h) (by rfl) ?_ (by assumption) ?_; rotate_left; (intro _w; go_simp; try with_reducible rfl); simp only [Act.put, List.setIfInBounds_toArray, List.set_cons_zero, List.set_cons_succ])
      (refine wpD_take 2 _ rfl (by kernel_rfl) (by kernel_rfl) (by kernel_rfl) (fun _ _ _ h => h) List.mem_cons_self (by rfl) (v := ?_) ?_ (by assumption) ?_; rotate_left; (intro _w _hw; go_simp; try with_reducible rfl); simp only [Act.put, List.setIfInBounds_toArray, List.set_cons_zero, List.set_cons_succ])
      (refine wpD_plain 3 (v := ?_) rfl (by kernel_rfl) (by kernel_rfl) (by kernel_rfl) (fun _ _ _ h => h) (by rfl) ?_ (by assumption) ?_; rotate_left; (intro _w; go_simp; try with_reducible rfl); simp only [Act.put, List.setIfInBounds_toArray, List.set_cons_zero, List.set_cons_succ])
      (refine wpD_plain 4 (v := ?_) rfl (by kernel_rfl) (by kernel_rfl) (by kernel_rfl) (fun _ _ _ h => h) (by rfl) ?_ (by assumption) ?_; rotate_left; (intro _w; go_simp; try with_reducible rfl); simp only [Act.put, List.setIfInBounds_toArray, List.set_cons_zero, List.set_cons_succ])
      (refine wpD_take 5 _ rfl (by kernel_rfl) (by kernel_rfl) (by kernel_rfl) (fun _ _ _ h => h) (List.mem_cons_of_mem _ List.mem_cons_self) (by rfl) (v := ?_) ?_ (by assumption) ?_; rotate_left; (intro _w _hw; go_simp; try with_reducible rfl); simp only [Act.put, List.setIfInBounds_toArray, List.set_cons_zero, List.set_cons_succ])
      (refine wpD_plain 6 (v := ?_) rfl (by kernel_rfl) (by kernel_rfl) (by kernel_rfl) (fun _ _ _ h => h) (by rfl) ?_ (by assumption) ?_; rotate_left; (intro _w; go_simp; try with_reducible rfl); simp only [Act.put, List.setIfInBounds_toArray, List.set_cons_zero, List.set_cons_succ])
      (refine wpD_plain 7 (v := ?_) rfl (by kernel_rfl) (by kernel_rfl) (by kernel_rfl) (fun _ _ _ h => h) (by rfl) ?_ (by assumption) ?_; rotate_left; (intro _w; go_simp; try with_reducible rfl); simp only [Act.put, List.setIfInBounds_toArray, List.set_cons_zero, List.set_cons_succ])
      refine wpD_only 8 [] rfl (by kernel_rfl) (by kernel_rfl) (by rfl) (fun K8 hK8 => ?_)
      refine wp_put _ _ _ rfl b1 n (comb f k n) rfl rfl _ _ 16 HR.out.1.drew hlt info1 ?_
      intro w5 HB5 HF5 HS5
      refine hK8 _ _ (Facts.nil_hold _) ?_
      clear hK8 K8
      simp only [Act.put, List.setIfInBounds_toArray, List.set_cons_zero, List.set_cons_succ]
      refine wpD_done (by kernel_rfl) ?_ _
      have HR' := hid (show Blk w5 b1 57 (b8 (upto (n + 1) (comb f k) f) 16) ∧ Blk w5 b2 57 (b8 k 16) ∧ Blk w5 b3 57 (b8 (fun _ => 0) 16) ∧ Fr No w w5 by
        rw [← upto_set]
        exact ⟨HB5.out, HR.out.2.1.drew.fr HF5.out (fun e => HN.out.1 e.symm), HR.out.2.2.1.drew.fr HF5.out (fun e => HN.out.2.1 e.symm), HR.out.2.2.2.drew.trans HF5.out fun i e => .inr (by have := HW.out; have : i = b1 := e; omega)⟩)
      clear HR HB5 HF5 HS5 hold c1 c2 hx
      go_wp2_with fail
      go_roundw
      case rel => exact ⟨n + 1, by omega, by go_num, HR'⟩
      case measure => simp [intOf]; omega
    · obtain rfl : n = 16 := by omega
      go_wp2_with (first
        | ((with_reducible show wpList _ _ _ (⟨_, .load 57 _, _, _, _, _⟩ :: _) _ _); refine wpL_all rfl _ _ rfl b1 rfl _ (upto 16 (comb f k) f) 16 _ HR.out.1 rfl rfl info16 ?_)
        | ((with_reducible show wpList _ _ _ (⟨_, .store 57 _ _, _, _, _, _⟩ :: _) _ _); refine wpL_whole rfl _ _ _ rfl b3 (upto 16 (comb f k) f) 16 rfl rfl _ _ HR.out.2.2.1 info16 ?_; intro w5 HB5 HF5 HS5)
        | fail)
      have hB5 := HB5.out
      rw [upto_all] at hB5
      refine ret_cell rfl _ rfl hB5 rfl rfl (by simpa using info16) rfl ?_
      exact ⟨rfl, HR.out.2.2.2.trans HF5.out fun i e => .inr (by have := HG.out; have : i = b3 := e; omega)⟩
theorem turn_any (t : Nat) (f : Nat → Nat) (w : World) (ht : t = 1 ∨ t = 3) : Calls Try.prog 75 #[bk f 16, .int .i64 t] w fun e w' =>
    e = .returned (bk (trn t f) 16) ∧ Fr No w w' := by
  have HT := hid ht; clear ht
  go_enter Try.func75, Try.ntmps75
  go_wp2_with (first
    | ((with_reducible show wpList _ _ _ (⟨_, .box 57 _, _, _, _, _⟩ :: _) _ _); refine wpL_box rfl _ _ rfl (bk f 16) rfl (b8 f 16) rfl ?_; intro w1 HB1 HF1 HS1)
    | ((with_reducible show wpList _ _ _ (⟨_, .alloc 57, _, _, _, _⟩ :: _) _ _); have := HB2; refine wpL_alloc rfl _ rfl _ zero16 (b8 (fun _ => 0) 16) rfl ?_; intro w3 HB3 HF3 HS3)
    | ((with_reducible show wpList _ _ _ (⟨_, .alloc 57, _, _, _, _⟩ :: _) _ _); refine wpL_alloc rfl _ rfl _ zero16 (b8 (fun _ => 0) 16) rfl ?_; intro w2 HB2 HF2 HS2))
  have hB1 := (HB1.out.fr HF2.out id).fr HF3.out id
  have hB2 := HB2.out.fr HF3.out id
  have hB3 := HB3.out
  have hf3 := (HF1.out.trans' HF2.out).trans' HF3.out
  obtain ⟨b1, hb1⟩ : ∃ b, w.heap.size = b := ⟨_, rfl⟩
  obtain ⟨b2, hb2⟩ : ∃ b, w1.heap.size = b := ⟨_, rfl⟩
  obtain ⟨b3, hb3⟩ : ∃ b, w2.heap.size = b := ⟨_, rfl⟩
  have hs1 := HS1.out; have hs2 := HS2.out
  rw [hb1, hb2] at hs1; rw [hb2, hb3] at hs2
  rw [hb1] at hB1; rw [hb2] at hB2; rw [hb3] at hB3
  rw [hb1, hb2, hb3]
  have HW := hid (show w.heap.size ≤ b3 ∧ w.heap.size ≤ b2 by omega); have HN := hid (show b1 ≠ b2 ∧ b1 ≠ b3 ∧ b2 ≠ b3 by omega)
  have HR := hid (show Blk w3 b1 57 (b8 f 16) ∧ Blk w3 b2 57 (b8 (fun _ => 0) 16) ∧ Blk w3 b3 57 (b8 (upto 0 (trn t f) fun _ => 0) 16) ∧ Fr No w w3 by rw [upto_zero]; exact ⟨hB1, hB2, hB3, hf3⟩)
  clear HB1 HB2 HB3 HF1 HF2 HF3 HS1 HS2 HS3 this hB1 hB2 hB3 hf3 hb1 hb2 hb3 hs1 hs2
  go_loopw [6, 7, 8] (fun _ _ i wr => ∃ n : Nat, n ≤ 16 ∧ i = .int .i64 n ∧ Hid (Blk wr b1 57 (b8 f 16) ∧ Blk wr b2 57 (b8 (fun _ => 0) 16) ∧ Blk wr b3 57 (b8 (upto n (trn t f) fun _ => 0) 16) ∧ Fr No w wr)) (fun _ _ i _ => 16 - (intOf i).toNat)
  case atStart => exact ⟨0, by omega, rfl, HR⟩
  case round =>
    clear HR
    obtain ⟨n, hn, rfl, HR⟩ := hrel
    by_cases hlt : n < 16
    · have c1 := blk_at HR.out.1 (i := (n + 4 * (n % 4) * t) % 16) (Nat.mod_lt _ (by decide))
      rcases HT.out with rfl | rfl
      · rw [Nat.mul_one] at c1
        go_wp2_with (first
          | ((with_reducible show wpList _ _ _ (⟨_, .store 5 _ _, _, _, _, _⟩ :: _) _ _); refine wpL_put rfl _ _ _ rfl b3 n (trn 1 f n) rfl (by simp [trn, Act.eval]) _ _ 16 HR.out.2.2.1 hlt info1 ?_; intro w5 HB5 HF5 HS5)
          | fail)
        have HR' := hid (show Blk w5 b1 57 (b8 f 16) ∧ Blk w5 b2 57 (b8 (fun _ => 0) 16) ∧ Blk w5 b3 57 (b8 (upto (n + 1) (trn 1 f) fun _ => 0) 16) ∧ Fr No w w5 by
          rw [← upto_set]
          exact ⟨HR.out.1.fr HF5.out HN.out.2.1, HR.out.2.1.fr HF5.out HN.out.2.2, HB5.out, HR.out.2.2.2.trans HF5.out fun i e => .inr (by have := HW.out; have : i = b3 := e; omega)⟩)
        clear HR HB5 HF5 HS5 c1
        go_wp2_with fail
        go_roundw
        case rel => exact ⟨_, _, _, ⟨n + 1, by omega, rfl, HR'⟩, rfl, rfl, rfl⟩
        case measure => simp [intOf]; omega
      · skip
        go_wp2_with (first
          | ((with_reducible show wpList _ _ _ (⟨_, .store 5 _ _, _, _, _, _⟩ :: _) _ _); refine wpL_put rfl _ _ _ rfl b3 n (trn 3 f n) rfl (by simp [trn, Act.eval]) _ _ 16 HR.out.2.2.1 hlt info1 ?_; intro w5 HB5 HF5 HS5)
          | fail)
        have HR' := hid (show Blk w5 b1 57 (b8 f 16) ∧ Blk w5 b2 57 (b8 (fun _ => 0) 16) ∧ Blk w5 b3 57 (b8 (upto (n + 1) (trn 3 f) fun _ => 0) 16) ∧ Fr No w w5 by
          rw [← upto_set]
          exact ⟨HR.out.1.fr HF5.out HN.out.2.1, HR.out.2.1.fr HF5.out HN.out.2.2, HB5.out, HR.out.2.2.2.trans HF5.out fun i e => .inr (by have := HW.out; have : i = b3 := e; omega)⟩)
        clear HR HB5 HF5 HS5 c1
        go_wp2_with fail
        go_roundw
        case rel => exact ⟨_, _, _, ⟨n + 1, by omega, rfl, HR'⟩, rfl, rfl, rfl⟩
        case measure => simp [intOf]; omega
    · obtain rfl : n = 16 := by omega
      go_wp2_with (first
        | ((with_reducible show wpList _ _ _ (⟨_, .load 57 _, _, _, _, _⟩ :: _) _ _); refine wpL_all rfl _ _ rfl b3 rfl _ (upto 16 (trn t f) fun _ => 0) 16 _ HR.out.2.2.1 rfl rfl info16 ?_)
        | ((with_reducible show wpList _ _ _ (⟨_, .store 57 _ _, _, _, _, _⟩ :: _) _ _); refine wpL_whole rfl _ _ _ rfl b2 (upto 16 (trn t f) fun _ => 0) 16 rfl rfl _ _ HR.out.2.1 info16 ?_; intro w5 HB5 HF5 HS5)
        | fail)
      have hB5 := HB5.out
      rw [upto_all] at hB5
      refine ret_cell rfl _ rfl hB5 rfl rfl (by simpa using info16) rfl ?_
      exact ⟨rfl, HR.out.2.2.2.trans HF5.out fun i e => .inr (by have := HW.out; have : i = b2 := e; omega)⟩
end Go.Proofs.Ytakmeipmngeilaa.AE
