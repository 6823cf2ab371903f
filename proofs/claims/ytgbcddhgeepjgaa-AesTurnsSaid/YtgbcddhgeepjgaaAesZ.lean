/-
  The document's aes: Encrypt.
-/
import Derived.Test.YtgbcddhgeepjgaaAesY
namespace Go.Proofs.Ytgbcddhgeepjgaa.AE
set_option maxRecDepth 100000
open Go.RowKit K

def rA (f : Nat → Nat) (j : Nat) : Nat → Nat := fun m => box (f ((j + m) % 4 * 4 + m))
def aJ (r : Nat) (f : Nat → Nat) (j : Nat) : Nat → Nat := if r < 10 then rC (rA f j) else rA f j
def rnd (r : Nat) (key f : Nat → Nat) : Nat → Nat := fun i => aJ r f (i / 4) (i % 4) ^^^ key i
def rst (k f : Nat → Nat) : Nat → Nat → Nat
  | 0 => comb f (keys k 0)
  | r + 1 => rnd (r + 1) (keys k (r + 1)) (rst k f r)
theorem rA_by {f : Nat → Nat} (h : By f) (j : Nat) : By (rA f j) := fun _ => box_lt (h _)
theorem aJ_by {f : Nat → Nat} (r : Nat) (h : By f) (j : Nat) : By (aJ r f j) := by
  unfold aJ; split
  · exact rC_by (rA_by h j)
  · exact rA_by h j
theorem rst_by {k f : Nat → Nat} (hk : By k) (hf : By f) : ∀ n, By (rst k f n)
  | 0 => hf.comb (keys_by hk 0)
  | r + 1 => fun i => xor_lt (aJ_by _ (rst_by hk hf r) _ _) (keys_by hk _ _)
theorem idx : ∀ i, i < 16 → ∀ n, n < 4 → (i - i % 4 + (i + n) % 4 + 4 * ((i - i % 4 + (i + n) % 4) % 4) * 1) % 16 = (i / 4 + (i % 4 + n) % 4) % 4 * 4 + (i % 4 + n) % 4 := by decide
theorem one_times {a : Nat} (ha : a < 256) : times 1 a = a := by rw [times_comm (by decide) ha, times_one ha]
theorem rnd_eq {f : Nat → Nat} (r : Nat) (key : Nat → Nat) (h : By f) : E (rnd r key f) (comb (mixF r (trn 1 (rep box f))) key) := by
  intro i hi
  have hx : ∀ n, n < 4 → trn 1 (rep box f) (i - i % 4 + (i + n) % 4) = rA f (i / 4) ((i % 4 + n) % 4) := fun n hn => by
    show box (f ((i - i % 4 + (i + n) % 4 + 4 * ((i - i % 4 + (i + n) % 4) % 4) * 1) % 16)) = _
    rw [idx i hi n hn]
    rfl
  have h0 := hx 0 (by decide)
  rw [show (i + 0) % 4 = i % 4 from rfl, show (i % 4 + 0) % 4 = i % 4 by omega] at h0
  show aJ r f (i / 4) (i % 4) ^^^ key i = mixF r (trn 1 (rep box f)) i ^^^ key i
  congr 1
  unfold aJ mixF
  split
  · show _ = 0 ^^^ times 2 (trn 1 (rep box f) (i - i % 4 + (i + 0) % 4)) ^^^ times 3 (trn 1 (rep box f) (i - i % 4 + (i + 1) % 4)) ^^^ times 1 (trn 1 (rep box f) (i - i % 4 + (i + 2) % 4)) ^^^ times 1 (trn 1 (rep box f) (i - i % 4 + (i + 3) % 4))
    have hb := rA_by h (i / 4)
    rw [show (i + 0) % 4 = i % 4 from rfl, h0, hx 1 (by decide), hx 2 (by decide), hx 3 (by decide), one_times (hb _), one_times (hb _), Nat.zero_xor]
    rfl
  · rw [show i - i % 4 + i % 4 = i by omega] at h0
    exact h0.symm
theorem rst_eq {k f : Nat → Nat} (hk : By k) (hf : By f) : ∀ n, E (rst k f n) (st k f n)
  | 0 => E.refl _
  | r + 1 => (rnd_eq (r + 1) _ (rst_by hk hf r)).trans (((((rst_eq hk hf r).rep).trn 1).mixF (r + 1)).comb (E.refl _))
theorem rnd_at (r : Nat) (key f : Nat → Nat) {j m : Nat} (hm : m < 4) : rnd r key f (j * 4 + m) = aJ r f j m ^^^ key (j * 4 + m) := by
  unfold rnd
  rw [show (j * 4 + m) / 4 = j by omega, show (j * 4 + m) % 4 = m by omega]

set_option maxHeartbeats 4000000 in
theorem renc_any (k f : Nat → Nat) (w : World) (hk : By k) (hf : By f) : Calls Try.prog 19 #[bk k 16, bk f 16] w fun e w' =>
    e = .returned (bk (enc k f) 16) ∧ Fr No w w' := by
  have HK := hid hk; have HF := hid hf; clear hk hf
  go_enter Try.func19, Try.ntmps19
  go_wp2_with (first
    | ((with_reducible show wpList _ _ _ ({ dst := _, op := .box 27 _, type := _, pos := _, after := _, guard := _ } :: _) _ _); have := HB1; refine wpL_box rfl _ _ rfl (bk f 16) rfl (b8 f 16) rfl ?_; intro w2 HB2 HF2 HS2)
    | ((with_reducible show wpList _ _ _ ({ dst := _, op := .box 27 _, type := _, pos := _, after := _, guard := _ } :: _) _ _); refine wpL_box rfl _ _ rfl (bk k 16) rfl (b8 k 16) rfl ?_; intro w1 HB1 HF1 HS1)
    | ((with_reducible show wpList _ _ _ ({ dst := _, op := .alloc 27, type := _, pos := _, after := _, guard := _ } :: _) _ _); refine wpL_alloc rfl _ rfl _ zero16 (b8 (fun _ => 0) 16) rfl ?_; intro w3 HB3 HF3 HS3)
    | ((with_reducible show wpList _ _ _ ({ dst := _, op := .load 27 _, type := _, pos := _, after := _, guard := _ } :: _) _ _); refine wpL_all rfl _ _ rfl w.heap.size rfl _ k 16 _ ((HB1.out.fr HF2.out id).fr HF3.out id) rfl rfl info16 ?_))
  refine (rexp_any k _ HK.out).mono ?_
  rintro e w4 ⟨rfl, hf4⟩
  have hB2 := (HB2.out.fr HF3.out id).fr hf4 id
  have hB3 := HB3.out.fr hf4 id
  have hf3 := ((HF1.out.trans' HF2.out).trans' HF3.out).trans' hf4
  obtain ⟨b2, hb2⟩ : ∃ b, w1.heap.size = b := ⟨_, rfl⟩
  obtain ⟨b3, hb3⟩ : ∃ b, w2.heap.size = b := ⟨_, rfl⟩
  have hs1 := HS1.out; have hs2 := HS2.out; have hs3 := HS3.out; have hs4 := hf4.size
  obtain ⟨b1, hb1⟩ : ∃ b, w.heap.size = b := ⟨_, rfl⟩
  obtain ⟨b4, hb4⟩ : ∃ b, w4.heap.size = b := ⟨_, rfl⟩
  rw [hb2] at hs1; rw [hb2, hb3] at hs2; rw [hb3] at hs3; rw [hb4] at hs4
  rw [hb2] at hB2; rw [hb3] at hB3
  rw [hb2, hb3, hb1]
  have HW := hid (show w.heap.size ≤ b2 ∧ w.heap.size ≤ b3 ∧ w.heap.size ≤ b4 by omega); have HN := hid (show b2 ≠ b3 ∧ b2 ≠ b4 ∧ b3 ≠ b4 by omega)
  have HR := hid (show Blk w4 b2 27 (b8 f 16) ∧ Blk w4 b3 27 (b8 (fun _ => 0) 16) ∧ Fr No w w4 from ⟨hB2, hB3, hf3⟩)
  have H4 := hid hb4
  clear HB1 HB2 HB3 HF1 HF2 HF3 HS1 HS2 HS3 this hB2 hB3 hf3 hf4 hb1 hb2 hb3 hb4 hs1 hs2 hs3 hs4
  go_wp2_with (first
    | ((with_reducible show wpList _ _ _ ({ dst := _, op := .alloc 28, type := _, pos := _, after := _, guard := _ } :: _) _ _); refine wpL_alloc rfl _ rfl _ zero176 (b8 (fun _ => 0) 176) rfl ?_; intro w5 HB5 HF5 HS5; rw [H4.out] at HB5 ⊢)
    | ((with_reducible show wpList _ _ _ ({ dst := _, op := .store 28 _ _, type := _, pos := _, after := _, guard := _ } :: _) _ _); refine wpL_whole rfl _ _ _ rfl b4 (fl (keys k)) 176 rfl rfl _ _ HB5.out info176 ?_; intro w6 HB6 HF6 HS6)
    | fail)
  have HR7 := hid (show Blk w6 b2 27 (b8 (upto 0 (comb f (keys k 0)) f) 16) ∧ Blk w6 b3 27 (b8 (fun _ => 0) 16) ∧ Blk w6 b4 28 (b8 (fl (keys k)) 176) ∧ Fr No w w6 by
    rw [upto_zero]
    exact ⟨(HR.out.1.fr HF5.out id).fr HF6.out HN.out.2.1, (HR.out.2.1.fr HF5.out id).fr HF6.out HN.out.2.2, HB6.out,
      (HR.out.2.2.trans' HF5.out).trans HF6.out fun i e => .inr (by have := HW.out; have : i = b4 := e; omega)⟩)
  clear HR HB5 HF5 HS5 HB6 HF6 HS6 H4
  go_loopw [6] (fun i wr => ∃ n : Nat, n ≤ 16 ∧ i = .int .i64 n ∧ Hid (Blk wr b2 27 (b8 (upto n (comb f (keys k 0)) f) 16) ∧ Blk wr b3 27 (b8 (fun _ => 0) 16) ∧ Blk wr b4 28 (b8 (fl (keys k)) 176) ∧ Fr No w wr)) (fun i _ => 16 - (intOf i).toNat)
  case atStart => exact ⟨0, by omega, rfl, HR7⟩
  case round =>
    clear HR7
    obtain ⟨n, hn, rfl, HR⟩ := hrel
    by_cases hlt : n < 16
    · go_wp2_with fail
      have c1 := blk_at HR.out.1 hlt
      have c2 := blk_at HR.out.2.2.1 (i := n) (by omega)
      rw [upto_get _ _ (Nat.le_refl n)] at c1
      have hf0 : fl (keys k) n = keys k 0 n := by unfold fl; rw [show n / 16 = 0 by omega, show n % 16 = n by omega]
      rw [hf0] at c2
      have hold : Facts.hold [(3, fun w' => w'.cell? ⟨b2, n, none⟩ = some (.int .u8 (f n : Int))), (7, fun w' => w'.cell? ⟨b4, n, none⟩ = some (.int .u8 (keys k 0 n : Int)))] wr.drew := Facts.cons_hold c1 (Facts.cons_hold c2 (Facts.nil_hold _))
      have hx : bits .xor .u8 (f n : Int) (keys k 0 n : Int) = ((comb f (keys k 0) n : Nat) : Int) := xor8 (HF.out n) (keys_by HK.out 0 n)
      clear c1 c2 hf0
      refine wpD_region hold (by kernel_rfl) 11 rfl ?_
      (refine wpD_plain 0 (v := ?_) rfl (by kernel_rfl) (by kernel_rfl) (by kernel_rfl) (fun _ _ _ h => h) (by rfl) ?_ (by assumption) ?_; rotate_left; (intro _w; go_simp; try with_reducible rfl); simp only [Act.put, List.setIfInBounds_toArray, List.set_cons_zero, List.set_cons_succ])
      (refine wpD_plain 1 (v := ?_) rfl (by kernel_rfl) (by kernel_rfl) (by kernel_rfl) (fun _ _ _ h => h) (by rfl) ?_ (by assumption) ?_; rotate_left; (intro _w; go_simp; try with_reducible rfl); simp only [Act.put, List.setIfInBounds_toArray, List.set_cons_zero, List.set_cons_succ])
      (refine wpD_plain 2 (v := ?_) rfl (by kernel_rfl) (by kernel_rfl) (by kernel_rfl) (fun _ _ _ h => h) (by rfl) ?_ (by assumption) ?_; rotate_left; (intro _w; go_simp; try with_reducible rfl); simp only [Act.put, List.setIfInBounds_toArray, List.set_cons_zero, List.set_cons_succ])
      (refine wpD_take 3 _ rfl (by kernel_rfl) (by kernel_rfl) (by kernel_rfl) (fun _ _ _ h => h) List.mem_cons_self (by rfl) (v := ?_) ?_ (by assumption) ?_; rotate_left; (intro _w _hw; go_simp; try with_reducible rfl); simp only [Act.put, List.setIfInBounds_toArray, List.set_cons_zero, List.set_cons_succ])
      (refine wpD_plain 4 (v := ?_) rfl (by kernel_rfl) (by kernel_rfl) (by kernel_rfl) (fun _ _ _ h => h) (by rfl) ?_ (by assumption) ?_; rotate_left; (intro _w; go_simp; try with_reducible rfl); simp only [Act.put, List.setIfInBounds_toArray, List.set_cons_zero, List.set_cons_succ])
      (refine wpD_plain 5 (v := ?_) rfl (by kernel_rfl) (by kernel_rfl) (by kernel_rfl) (fun _ _ _ h => h) (by rfl) ?_ (by assumption) ?_; rotate_left; (intro _w; go_simp; try with_reducible rfl); simp only [Act.put, List.setIfInBounds_toArray, List.set_cons_zero, List.set_cons_succ])
      (refine wpD_plain 6 (v := ?_) rfl (by kernel_rfl) (by kernel_rfl) (by kernel_rfl) (fun _ _ _ h => h) (by rfl) ?_ (by assumption) ?_; rotate_left; (intro _w; go_simp; try with_reducible rfl); simp only [Act.put, List.setIfInBounds_toArray, List.set_cons_zero, List.set_cons_succ])
      (refine wpD_take 7 _ rfl (by kernel_rfl) (by kernel_rfl) (by kernel_rfl) (fun _ _ _ h => h) (List.mem_cons_of_mem _ List.mem_cons_self) (by rfl) (v := ?_) ?_ (by assumption) ?_; rotate_left; (intro _w _hw; go_simp; try with_reducible rfl); simp only [Act.put, List.setIfInBounds_toArray, List.set_cons_zero, List.set_cons_succ])
      (refine wpD_plain 8 (v := ?_) rfl (by kernel_rfl) (by kernel_rfl) (by kernel_rfl) (fun _ _ _ h => h) (by rfl) ?_ (by assumption) ?_; rotate_left; (intro _w; go_simp; try with_reducible rfl); simp only [Act.put, List.setIfInBounds_toArray, List.set_cons_zero, List.set_cons_succ])
      (refine wpD_plain 9 (v := ?_) rfl (by kernel_rfl) (by kernel_rfl) (by kernel_rfl) (fun _ _ _ h => h) (by rfl) ?_ (by assumption) ?_; rotate_left; (intro _w; go_simp; try with_reducible rfl); simp only [Act.put, List.setIfInBounds_toArray, List.set_cons_zero, List.set_cons_succ])
      refine wpD_only 10 [] rfl (by kernel_rfl) (by kernel_rfl) (by rfl) (fun KS hKS => ?_)
      refine wp_put _ _ _ rfl b2 n (comb f (keys k 0) n) rfl rfl _ _ 16 HR.out.1.drew hlt info1 ?_
      intro w5 HB5 HF5 HS5
      refine hKS _ _ (Facts.nil_hold _) ?_
      clear hKS KS
      simp only [Act.put, List.setIfInBounds_toArray, List.set_cons_zero, List.set_cons_succ]
      refine wpD_done (by kernel_rfl) ?_ _
      have HR' : Hid (Blk w5 b2 27 (b8 (upto (n + 1) (comb f (keys k 0)) f) 16) ∧ Blk w5 b3 27 (b8 (fun _ => 0) 16) ∧ Blk w5 b4 28 (b8 (fl (keys k)) 176) ∧ Fr No w w5) := hid (by
        rw [← upto_set]
        exact ⟨HB5.out, HR.out.2.1.drew.fr HF5.out (fun e => HN.out.1 e.symm), HR.out.2.2.1.drew.fr HF5.out (fun e => HN.out.2.1 e.symm), HR.out.2.2.2.drew.trans HF5.out fun i e => .inr (by have := HW.out; have : i = b2 := e; omega)⟩)
      clear HR HB5 HF5 HS5 hold hx
      go_wp2_with fail
      go_roundw
      case rel => exact ⟨n + 1, by omega, by go_num, HR'⟩
      case measure => simp [intOf]; omega
    · obtain rfl : n = 16 := by omega
      have hr := HR.out
      rw [upto_all] at hr
      have HR0 : Hid (Blk wr b2 27 (b8 (rst k f 0) 16) ∧ Blk wr b3 27 (b8 (fun _ => 0) 16) ∧ Blk wr b4 28 (b8 (fl (keys k)) 176) ∧ Fr No w wr) := hid hr
      clear HR hr
      go_wp2_with fail
      go_loopw [7, 8, 9, 10, 11, 12] (fun i _ _ _ _ _ wr => ∃ n : Nat, n ≤ 10 ∧ i = .int .i64 (n + 1 : Nat) ∧ Hid (Blk wr b2 27 (b8 (rst k f n) 16) ∧ Blk wr b3 27 (b8 (fun _ => 0) 16) ∧ Blk wr b4 28 (b8 (fl (keys k)) 176) ∧ Fr No w wr)) (fun i _ _ _ _ _ _ => 11 - (intOf i).toNat)
      case atStart => exact ⟨0, by omega, rfl, HR0⟩
      case round =>
        clear HR0
        obtain ⟨n, hn, rfl, HR⟩ := hrel
        by_cases hlt : n < 10
        · obtain ⟨r, hr⟩ : ∃ r, n + 1 = r := ⟨_, rfl⟩
          have hst : rst k f r = rnd r (keys k r) (rst k f n) := by rw [← hr]; rfl
          have hr1 : r ≤ 10 := by omega
          have hr0 : 1 ≤ r := by omega
          have hri : (r : Int) < 11 := by omega
          rw [hr]
          have hX := rst_by HK.out HF.out n
          obtain ⟨X, hXe⟩ : ∃ X, rst k f n = X := ⟨_, rfl⟩
          rw [hXe] at hst hX HR
          have HST := hid hst; have HX := hid hX; have HRN := hid hr
          clear hst hX hXe hr
          go_wp2_with (first
            | ((with_reducible show wpList _ _ _ ({ dst := _, op := .alloc 27, type := _, pos := _, after := _, guard := _ } :: _) _ _); refine wpL_alloc rfl _ rfl _ zero16 (b8 (fun _ => 0) 16) rfl ?_; intro w6 HB6 HF6 HS6)
            | fail)
          obtain ⟨b5, hb5⟩ : ∃ b, wr.heap.size = b := ⟨_, rfl⟩
          have hB5 := HB6.out
          have hs := HR.out.2.2.2.size
          have l2 := HR.out.1.lt; have l3 := HR.out.2.1.lt; have l4 := HR.out.2.2.1.lt
          rw [hb5] at hB5 hs l2 l3 l4
          rw [hb5]
          have HW5 := hid hs; have HN5 := hid (show b2 ≠ b5 ∧ b3 ≠ b5 ∧ b4 ≠ b5 by omega)
          have HR' : Hid (Blk w6 b2 27 (b8 (X) 16) ∧ Blk w6 b3 27 (b8 (fun _ => 0) 16) ∧ Blk w6 b4 28 (b8 (fl (keys k)) 176) ∧ Blk w6 b5 27 (b8 (upto (0 * 4) (rnd r (keys k r) X) fun _ => 0) 16) ∧ Fr No w w6) := hid (by
            rw [Nat.zero_mul, upto_zero]
            exact ⟨HR.out.1.fr HF6.out id, HR.out.2.1.fr HF6.out id, HR.out.2.2.1.fr HF6.out id, hB5, HR.out.2.2.2.trans' HF6.out⟩)
          clear HR HB6 HF6 HS6 hb5 hB5 hs l2 l3 l4
          have HR := HR'
          clear HR'
          go_loopw [9, 10, 11, 12] (fun i _ _ _ wr => ∃ j : Nat, j ≤ 4 ∧ i = .int .i64 j ∧ Hid (Blk wr b2 27 (b8 (X) 16) ∧ Blk wr b3 27 (b8 (fun _ => 0) 16) ∧ Blk wr b4 28 (b8 (fl (keys k)) 176) ∧ Blk wr b5 27 (b8 (upto (j * 4) (rnd r (keys k r) X) fun _ => 0) 16) ∧ Fr No w wr)) (fun i _ _ _ _ => 4 - (intOf i).toNat)
          case atStart => exact ⟨0, by omega, rfl, HR⟩
          case round =>
            clear HR
            obtain ⟨j, hj, rfl, HR⟩ := hrel
            by_cases hlt2 : j < 4
            · go_wp2_with (first
                | ((with_reducible show wpList _ _ _ ({ dst := _, op := .alloc 38, type := _, pos := _, after := _, guard := _ } :: _) _ _); refine wpL_alloc rfl _ rfl _ zero4 (b8 (fun _ => 0) 4) rfl ?_; intro w6 HB6 HF6 HS6)
                | fail)
              obtain ⟨b6, hb6⟩ : ∃ b, wr.heap.size = b := ⟨_, rfl⟩
              have hB6 := HB6.out
              have hs := HR.out.2.2.2.2.size
              have l2 := HR.out.1.lt; have l3 := HR.out.2.1.lt; have l4 := HR.out.2.2.1.lt; have l5 := HR.out.2.2.2.1.lt
              rw [hb6] at hB6 hs l2 l3 l4 l5
              rw [hb6]
              have HW6 := hid hs; have HN6 := hid (show b2 ≠ b6 ∧ b3 ≠ b6 ∧ b4 ≠ b6 ∧ b5 ≠ b6 by omega)
              have HR' : Hid (Blk w6 b2 27 (b8 (X) 16) ∧ Blk w6 b3 27 (b8 (fun _ => 0) 16) ∧ Blk w6 b4 28 (b8 (fl (keys k)) 176) ∧ Blk w6 b5 27 (b8 (upto (j * 4) (rnd r (keys k r) X) fun _ => 0) 16) ∧ Blk w6 b6 38 (b8 (upto 0 (rA X j) fun _ => 0) 4) ∧ Fr No w w6) := hid (by
                rw [upto_zero]
                exact ⟨HR.out.1.fr HF6.out id, HR.out.2.1.fr HF6.out id, HR.out.2.2.1.fr HF6.out id, HR.out.2.2.2.1.fr HF6.out id, hB6, HR.out.2.2.2.2.trans' HF6.out⟩)
              clear HR HB6 HF6 HS6 hb6 hB6 hs l2 l3 l4 l5
              have HR := HR'
              clear HR'
              go_loopw [11] (fun i wr => ∃ m : Nat, m ≤ 4 ∧ i = .int .i64 m ∧ Hid (Blk wr b2 27 (b8 (X) 16) ∧ Blk wr b3 27 (b8 (fun _ => 0) 16) ∧ Blk wr b4 28 (b8 (fl (keys k)) 176) ∧ Blk wr b5 27 (b8 (upto (j * 4) (rnd r (keys k r) X) fun _ => 0) 16) ∧ Blk wr b6 38 (b8 (upto m (rA X j) fun _ => 0) 4) ∧ Fr No w wr)) (fun i _ => 4 - (intOf i).toNat)
              case atStart => exact ⟨0, by omega, rfl, HR⟩
              case round =>
                clear HR
                obtain ⟨m, hm, rfl, HR⟩ := hrel
                by_cases hlt3 : m < 4
                · have c1 := blk_at HR.out.1 (i := (j + m) % 4 * 4 + m) (by omega)
                  go_wp2_with fail
                  refine (rbox_any (X ((j + m) % 4 * 4 + m)) _ (HX.out _)).mono ?_
                  rintro e w' ⟨rfl, rfl⟩
                  clear c1
                  go_wp2_with (first
                    | ((with_reducible show wpList _ _ _ ({ dst := _, op := .store 5 _ _, type := _, pos := _, after := _, guard := _ } :: _) _ _); refine wpL_put rfl _ _ _ rfl b6 m (rA X j m) rfl rfl _ _ 4 HR.out.2.2.2.2.1 hlt3 info1 ?_; intro w5 HB5 HF5 HS5)
                    | fail)
                  have HR' : Hid (Blk w5 b2 27 (b8 (X) 16) ∧ Blk w5 b3 27 (b8 (fun _ => 0) 16) ∧ Blk w5 b4 28 (b8 (fl (keys k)) 176) ∧ Blk w5 b5 27 (b8 (upto (j * 4) (rnd r (keys k r) X) fun _ => 0) 16) ∧ Blk w5 b6 38 (b8 (upto (m + 1) (rA X j) fun _ => 0) 4) ∧ Fr No w w5) := hid (by
                    rw [← upto_set]
                    exact ⟨HR.out.1.fr HF5.out HN6.out.1, HR.out.2.1.fr HF5.out HN6.out.2.1, HR.out.2.2.1.fr HF5.out HN6.out.2.2.1, HR.out.2.2.2.1.fr HF5.out HN6.out.2.2.2, HB5.out, HR.out.2.2.2.2.2.trans HF5.out fun i e => .inr (by have := HW6.out; have : i = b6 := e; omega)⟩)
                  clear HR HB5 HF5 HS5
                  go_wp2_with fail
                  go_roundw
                  case rel => exact ⟨m + 1, by omega, by go_num, HR'⟩
                  case measure => simp [intOf]; omega
                · obtain rfl : m = 4 := by omega
                  have hr := HR.out
                  rw [upto_all] at hr
                  have HR0 := hid hr
                  clear HR hr
                  by_cases hr10 : r < 10
                  · have haj : aJ r X j = rC (rA X j) := if_pos hr10
                    have HAJ := hid haj
                    clear haj
                    go_wp2_with (first
                      | ((with_reducible show wpList _ _ _ ({ dst := _, op := .load 38 _, type := _, pos := _, after := _, guard := _ } :: _) _ _); refine wpL_all rfl _ _ rfl b6 rfl _ (rA X j) 4 _ HR0.out.2.2.2.2.1 rfl rfl info4 ?_)
                      | fail)
                    refine (rmix_any (rA X j) _ (rA_by HX.out j)).mono ?_
                    rintro e w4 ⟨rfl, hf4⟩
                    go_wp2_with (first
                      | ((with_reducible show wpList _ _ _ ({ dst := _, op := .store 38 _ _, type := _, pos := _, after := _, guard := _ } :: _) _ _); refine wpL_whole rfl _ _ _ rfl b6 (rC (rA X j)) 4 rfl rfl _ _ (HR0.out.2.2.2.2.1.fr hf4 id) info4 ?_; intro w5 HB5 HF5 HS5)
                      | fail)
                    have hb5 := HB5.out
                    rw [← HAJ.out] at hb5
                    have HR : Hid (Blk w5 b2 27 (b8 (X) 16) ∧ Blk w5 b3 27 (b8 (fun _ => 0) 16) ∧ Blk w5 b4 28 (b8 (fl (keys k)) 176) ∧ Blk w5 b5 27 (b8 (upto (j * 4 + 0) (rnd r (keys k r) X) fun _ => 0) 16) ∧ Blk w5 b6 38 (b8 (aJ r X j) 4) ∧ Fr No w w5) := hid
                      ⟨(HR0.out.1.fr hf4 id).fr HF5.out HN6.out.1, (HR0.out.2.1.fr hf4 id).fr HF5.out HN6.out.2.1, (HR0.out.2.2.1.fr hf4 id).fr HF5.out HN6.out.2.2.1, (HR0.out.2.2.2.1.fr hf4 id).fr HF5.out HN6.out.2.2.2, hb5, (HR0.out.2.2.2.2.2.trans' hf4).trans HF5.out fun i e => .inr (by have := HW6.out; have : i = b6 := e; omega)⟩
                    clear HR0 HB5 HF5 HS5 hf4 hb5 HAJ
                    go_loopw [12] (fun i wr => ∃ m : Nat, m ≤ 4 ∧ i = .int .i64 m ∧ Hid (Blk wr b2 27 (b8 (X) 16) ∧ Blk wr b3 27 (b8 (fun _ => 0) 16) ∧ Blk wr b4 28 (b8 (fl (keys k)) 176) ∧ Blk wr b5 27 (b8 (upto (j * 4 + m) (rnd r (keys k r) X) fun _ => 0) 16) ∧ Blk wr b6 38 (b8 (aJ r X j) 4) ∧ Fr No w wr)) (fun i _ => 4 - (intOf i).toNat)
                    case atStart => exact ⟨0, by omega, rfl, HR⟩
                    case round =>
                      clear HR
                      obtain ⟨m, hm, rfl, HR⟩ := hrel
                      by_cases hlt3 : m < 4
                      · obtain ⟨J, hJ⟩ : ∃ J, j * 4 + m = J := ⟨_, rfl⟩
                        have hJ16 : J < 16 := by omega
                        have hJi : (J : Int) < 16 := by omega
                        have HJ := hid hJ
                        clear hJ
                        go_wp2_with fail
                        have c1 := blk_at HR.out.2.2.2.2.1 hlt3
                        have c2 := blk_at HR.out.2.2.1 (i := r * 16 + J) (by omega)
                        rw [fl_at (keys k) r J hJ16] at c2
                        have hold : Facts.hold [(6, fun w' => w'.cell? ⟨b6, m, none⟩ = some (.int .u8 (aJ r X j m : Int))), (14, fun w' => w'.cell? ⟨b4, r * 16 + J, none⟩ = some (.int .u8 (keys k r J : Int)))] wr.drew := Facts.cons_hold c1 (Facts.cons_hold c2 (Facts.nil_hold _))
                        have hx : bits .xor .u8 (aJ r X j m : Int) (keys k r J : Int) = ((rnd r (keys k r) X J : Nat) : Int) := by
                          rw [xor8 (aJ_by r HX.out j m) (keys_by HK.out r J), ← HJ.out, rnd_at r _ _ hlt3]
                        clear c1 c2
                        refine wpD_region hold (by kernel_rfl) 18 rfl ?_
                        (refine wpD_plain 0 (v := ?_) rfl (by kernel_rfl) (by kernel_rfl) (by kernel_rfl) (fun _ _ _ h => h) (by rfl) ?_ (by assumption) ?_; rotate_left; (intro _w; go_simp; try with_reducible rfl); simp only [Act.put, List.setIfInBounds_toArray, List.set_cons_zero, List.set_cons_succ])
                        (refine wpD_plain 1 (v := (.int .i64 ((4 * j : Nat) : Int))) rfl (by kernel_rfl) (by kernel_rfl) (by kernel_rfl) (fun _ _ _ h => h) (by rfl) ?_ (by assumption) ?_; (intro _w; go_simp; (rw [IntKind.wrap_i64]; omega)); simp only [Act.put, List.setIfInBounds_toArray, List.set_cons_zero, List.set_cons_succ])
                        (refine wpD_plain 2 (v := ?_) rfl (by kernel_rfl) (by kernel_rfl) (by kernel_rfl) (fun _ _ _ h => h) (by rfl) ?_ (by assumption) ?_; rotate_left; (intro _w; go_simp; try with_reducible rfl); simp only [Act.put, List.setIfInBounds_toArray, List.set_cons_zero, List.set_cons_succ])
                        (refine wpD_plain 3 (v := (.int .i64 (J : Int))) rfl (by kernel_rfl) (by kernel_rfl) (by kernel_rfl) (fun _ _ _ h => h) (by rfl) ?_ (by assumption) ?_; (intro _w; go_simp; (have := HJ.out; rw [IntKind.wrap_i64]; omega)); simp only [Act.put, List.setIfInBounds_toArray, List.set_cons_zero, List.set_cons_succ])
                        (refine wpD_plain 4 (v := ?_) rfl (by kernel_rfl) (by kernel_rfl) (by kernel_rfl) (fun _ _ _ h => h) (by rfl) ?_ (by assumption) ?_; rotate_left; (intro _w; go_simp; try with_reducible rfl); simp only [Act.put, List.setIfInBounds_toArray, List.set_cons_zero, List.set_cons_succ])
                        (refine wpD_plain 5 (v := ?_) rfl (by kernel_rfl) (by kernel_rfl) (by kernel_rfl) (fun _ _ _ h => h) (by rfl) ?_ (by assumption) ?_; rotate_left; (intro _w; go_simp; try with_reducible rfl); simp only [Act.put, List.setIfInBounds_toArray, List.set_cons_zero, List.set_cons_succ])
                        (refine wpD_take 6 _ rfl (by kernel_rfl) (by kernel_rfl) (by kernel_rfl) (fun _ _ _ h => h) List.mem_cons_self (by rfl) (v := ?_) ?_ (by assumption) ?_; rotate_left; (intro _w _hw; go_simp; try with_reducible rfl); simp only [Act.put, List.setIfInBounds_toArray, List.set_cons_zero, List.set_cons_succ])
                        (refine wpD_plain 7 (v := ?_) rfl (by kernel_rfl) (by kernel_rfl) (by kernel_rfl) (fun _ _ _ h => h) (by rfl) ?_ (by assumption) ?_; rotate_left; (intro _w; go_simp; try with_reducible rfl); simp only [Act.put, List.setIfInBounds_toArray, List.set_cons_zero, List.set_cons_succ])
                        (refine wpD_plain 8 (v := ?_) rfl (by kernel_rfl) (by kernel_rfl) (by kernel_rfl) (fun _ _ _ h => h) (by rfl) ?_ (by assumption) ?_; rotate_left; (intro _w; go_simp; try with_reducible rfl); simp only [Act.put, List.setIfInBounds_toArray, List.set_cons_zero, List.set_cons_succ])
                        (refine wpD_plain 9 (v := (.int .i64 ((4 * j : Nat) : Int))) rfl (by kernel_rfl) (by kernel_rfl) (by kernel_rfl) (fun _ _ _ h => h) (by rfl) ?_ (by assumption) ?_; (intro _w; go_simp; (rw [IntKind.wrap_i64]; omega)); simp only [Act.put, List.setIfInBounds_toArray, List.set_cons_zero, List.set_cons_succ])
                        (refine wpD_plain 10 (v := ?_) rfl (by kernel_rfl) (by kernel_rfl) (by kernel_rfl) (fun _ _ _ h => h) (by rfl) ?_ (by assumption) ?_; rotate_left; (intro _w; go_simp; try with_reducible rfl); simp only [Act.put, List.setIfInBounds_toArray, List.set_cons_zero, List.set_cons_succ])
                        (refine wpD_plain 11 (v := (.int .i64 (J : Int))) rfl (by kernel_rfl) (by kernel_rfl) (by kernel_rfl) (fun _ _ _ h => h) (by rfl) ?_ (by assumption) ?_; (intro _w; go_simp; (have := HJ.out; rw [IntKind.wrap_i64]; omega)); simp only [Act.put, List.setIfInBounds_toArray, List.set_cons_zero, List.set_cons_succ])
                        (refine wpD_plain 12 (v := ?_) rfl (by kernel_rfl) (by kernel_rfl) (by kernel_rfl) (fun _ _ _ h => h) (by rfl) ?_ (by assumption) ?_; rotate_left; (intro _w; go_simp; try with_reducible rfl); simp only [Act.put, List.setIfInBounds_toArray, List.set_cons_zero, List.set_cons_succ])
                        (refine wpD_plain 13 (v := ?_) rfl (by kernel_rfl) (by kernel_rfl) (by kernel_rfl) (fun _ _ _ h => h) (by rfl) ?_ (by assumption) ?_; rotate_left; (intro _w; go_simp; try with_reducible rfl); simp only [Act.put, List.setIfInBounds_toArray, List.set_cons_zero, List.set_cons_succ])
                        (refine wpD_take 14 _ rfl (by kernel_rfl) (by kernel_rfl) (by kernel_rfl) (fun _ _ _ h => h) (List.mem_cons_of_mem _ List.mem_cons_self) (by rfl) (v := ?_) ?_ (by assumption) ?_; rotate_left; (intro _w _hw; go_simp; try with_reducible rfl); simp only [Act.put, List.setIfInBounds_toArray, List.set_cons_zero, List.set_cons_succ])
                        (refine wpD_plain 15 (v := ?_) rfl (by kernel_rfl) (by kernel_rfl) (by kernel_rfl) (fun _ _ _ h => h) (by rfl) ?_ (by assumption) ?_; rotate_left; (intro _w; go_simp; try with_reducible rfl); simp only [Act.put, List.setIfInBounds_toArray, List.set_cons_zero, List.set_cons_succ])
                        (refine wpD_plain 16 (v := ?_) rfl (by kernel_rfl) (by kernel_rfl) (by kernel_rfl) (fun _ _ _ h => h) (by rfl) ?_ (by assumption) ?_; rotate_left; (intro _w; go_simp; try with_reducible rfl); simp only [Act.put, List.setIfInBounds_toArray, List.set_cons_zero, List.set_cons_succ])
                        refine wpD_only 17 [] rfl (by kernel_rfl) (by kernel_rfl) (by rfl) (fun KS hKS => ?_)
                        refine wp_put _ _ _ rfl b5 J (rnd r (keys k r) X J) rfl rfl _ _ 16 HR.out.2.2.2.1.drew hJ16 info1 ?_
                        intro w5 HB5 HF5 HS5
                        refine hKS _ _ (Facts.nil_hold _) ?_
                        clear hKS KS
                        simp only [Act.put, List.setIfInBounds_toArray, List.set_cons_zero, List.set_cons_succ]
                        refine wpD_done (by kernel_rfl) ?_ _
                        have hb5 := HB5.out
                        rw [← HJ.out, upto_set] at hb5
                        have HR' : Hid (Blk w5 b2 27 (b8 (X) 16) ∧ Blk w5 b3 27 (b8 (fun _ => 0) 16) ∧ Blk w5 b4 28 (b8 (fl (keys k)) 176) ∧ Blk w5 b5 27 (b8 (upto (j * 4 + (m + 1)) (rnd r (keys k r) X) fun _ => 0) 16) ∧ Blk w5 b6 38 (b8 (aJ r X j) 4) ∧ Fr No w w5) := hid
                          ⟨HR.out.1.drew.fr HF5.out HN5.out.1, HR.out.2.1.drew.fr HF5.out HN5.out.2.1, HR.out.2.2.1.drew.fr HF5.out HN5.out.2.2, hb5, HR.out.2.2.2.2.1.drew.fr HF5.out (fun e => HN6.out.2.2.2 e.symm), HR.out.2.2.2.2.2.drew.trans HF5.out fun i e => .inr (by have := HW5.out; have : i = b5 := e; omega)⟩
                        clear HR HB5 HF5 HS5 hold hx hb5
                        go_wp2_with fail
                        go_roundw
                        case rel => exact ⟨m + 1, by omega, by go_num, HR'⟩
                        case measure => simp [intOf]; omega
                      · obtain rfl : m = 4 := by omega
                        have hr := HR.out
                        rw [show j * 4 + 4 = (j + 1) * 4 by omega] at hr
                        have HR' : Hid (Blk wr b2 27 (b8 (X) 16) ∧ Blk wr b3 27 (b8 (fun _ => 0) 16) ∧ Blk wr b4 28 (b8 (fl (keys k)) 176) ∧ Blk wr b5 27 (b8 (upto ((j + 1) * 4) (rnd r (keys k r) X) fun _ => 0) 16) ∧ Fr No w wr) := hid ⟨hr.1, hr.2.1, hr.2.2.1, hr.2.2.2.1, hr.2.2.2.2.2⟩
                        clear HR hr
                        go_wp2_with fail
                        go_roundw
                        case rel => exact ⟨j + 1, by omega, by go_num, HR'⟩
                        case measure => simp [intOf]; omega
                  · have haj : aJ r X j = rA X j := if_neg hr10
                    have hr := HR0.out
                    rw [← haj] at hr
                    have HR : Hid (Blk wr b2 27 (b8 (X) 16) ∧ Blk wr b3 27 (b8 (fun _ => 0) 16) ∧ Blk wr b4 28 (b8 (fl (keys k)) 176) ∧ Blk wr b5 27 (b8 (upto (j * 4 + 0) (rnd r (keys k r) X) fun _ => 0) 16) ∧ Blk wr b6 38 (b8 (aJ r X j) 4) ∧ Fr No w wr) := hid hr
                    clear HR0 hr haj
                    go_wp2_with fail
                    go_loopw [12] (fun i wr => ∃ m : Nat, m ≤ 4 ∧ i = .int .i64 m ∧ Hid (Blk wr b2 27 (b8 (X) 16) ∧ Blk wr b3 27 (b8 (fun _ => 0) 16) ∧ Blk wr b4 28 (b8 (fl (keys k)) 176) ∧ Blk wr b5 27 (b8 (upto (j * 4 + m) (rnd r (keys k r) X) fun _ => 0) 16) ∧ Blk wr b6 38 (b8 (aJ r X j) 4) ∧ Fr No w wr)) (fun i _ => 4 - (intOf i).toNat)
                    case atStart => exact ⟨0, by omega, rfl, HR⟩
                    case round =>
                      clear HR
                      obtain ⟨m, hm, rfl, HR⟩ := hrel
                      by_cases hlt3 : m < 4
                      · obtain ⟨J, hJ⟩ : ∃ J, j * 4 + m = J := ⟨_, rfl⟩
                        have hJ16 : J < 16 := by omega
                        have hJi : (J : Int) < 16 := by omega
                        have HJ := hid hJ
                        clear hJ
                        go_wp2_with fail
                        have c1 := blk_at HR.out.2.2.2.2.1 hlt3
                        have c2 := blk_at HR.out.2.2.1 (i := r * 16 + J) (by omega)
                        rw [fl_at (keys k) r J hJ16] at c2
                        have hold : Facts.hold [(6, fun w' => w'.cell? ⟨b6, m, none⟩ = some (.int .u8 (aJ r X j m : Int))), (14, fun w' => w'.cell? ⟨b4, r * 16 + J, none⟩ = some (.int .u8 (keys k r J : Int)))] wr.drew := Facts.cons_hold c1 (Facts.cons_hold c2 (Facts.nil_hold _))
                        have hx : bits .xor .u8 (aJ r X j m : Int) (keys k r J : Int) = ((rnd r (keys k r) X J : Nat) : Int) := by
                          rw [xor8 (aJ_by r HX.out j m) (keys_by HK.out r J), ← HJ.out, rnd_at r _ _ hlt3]
                        clear c1 c2
                        refine wpD_region hold (by kernel_rfl) 18 rfl ?_
                        (refine wpD_plain 0 (v := ?_) rfl (by kernel_rfl) (by kernel_rfl) (by kernel_rfl) (fun _ _ _ h => h) (by rfl) ?_ (by assumption) ?_; rotate_left; (intro _w; go_simp; try with_reducible rfl); simp only [Act.put, List.setIfInBounds_toArray, List.set_cons_zero, List.set_cons_succ])
                        (refine wpD_plain 1 (v := (.int .i64 ((4 * j : Nat) : Int))) rfl (by kernel_rfl) (by kernel_rfl) (by kernel_rfl) (fun _ _ _ h => h) (by rfl) ?_ (by assumption) ?_; (intro _w; go_simp; (rw [IntKind.wrap_i64]; omega)); simp only [Act.put, List.setIfInBounds_toArray, List.set_cons_zero, List.set_cons_succ])
                        (refine wpD_plain 2 (v := ?_) rfl (by kernel_rfl) (by kernel_rfl) (by kernel_rfl) (fun _ _ _ h => h) (by rfl) ?_ (by assumption) ?_; rotate_left; (intro _w; go_simp; try with_reducible rfl); simp only [Act.put, List.setIfInBounds_toArray, List.set_cons_zero, List.set_cons_succ])
                        (refine wpD_plain 3 (v := (.int .i64 (J : Int))) rfl (by kernel_rfl) (by kernel_rfl) (by kernel_rfl) (fun _ _ _ h => h) (by rfl) ?_ (by assumption) ?_; (intro _w; go_simp; (have := HJ.out; rw [IntKind.wrap_i64]; omega)); simp only [Act.put, List.setIfInBounds_toArray, List.set_cons_zero, List.set_cons_succ])
                        (refine wpD_plain 4 (v := ?_) rfl (by kernel_rfl) (by kernel_rfl) (by kernel_rfl) (fun _ _ _ h => h) (by rfl) ?_ (by assumption) ?_; rotate_left; (intro _w; go_simp; try with_reducible rfl); simp only [Act.put, List.setIfInBounds_toArray, List.set_cons_zero, List.set_cons_succ])
                        (refine wpD_plain 5 (v := ?_) rfl (by kernel_rfl) (by kernel_rfl) (by kernel_rfl) (fun _ _ _ h => h) (by rfl) ?_ (by assumption) ?_; rotate_left; (intro _w; go_simp; try with_reducible rfl); simp only [Act.put, List.setIfInBounds_toArray, List.set_cons_zero, List.set_cons_succ])
                        (refine wpD_take 6 _ rfl (by kernel_rfl) (by kernel_rfl) (by kernel_rfl) (fun _ _ _ h => h) List.mem_cons_self (by rfl) (v := ?_) ?_ (by assumption) ?_; rotate_left; (intro _w _hw; go_simp; try with_reducible rfl); simp only [Act.put, List.setIfInBounds_toArray, List.set_cons_zero, List.set_cons_succ])
                        (refine wpD_plain 7 (v := ?_) rfl (by kernel_rfl) (by kernel_rfl) (by kernel_rfl) (fun _ _ _ h => h) (by rfl) ?_ (by assumption) ?_; rotate_left; (intro _w; go_simp; try with_reducible rfl); simp only [Act.put, List.setIfInBounds_toArray, List.set_cons_zero, List.set_cons_succ])
                        (refine wpD_plain 8 (v := ?_) rfl (by kernel_rfl) (by kernel_rfl) (by kernel_rfl) (fun _ _ _ h => h) (by rfl) ?_ (by assumption) ?_; rotate_left; (intro _w; go_simp; try with_reducible rfl); simp only [Act.put, List.setIfInBounds_toArray, List.set_cons_zero, List.set_cons_succ])
                        (refine wpD_plain 9 (v := (.int .i64 ((4 * j : Nat) : Int))) rfl (by kernel_rfl) (by kernel_rfl) (by kernel_rfl) (fun _ _ _ h => h) (by rfl) ?_ (by assumption) ?_; (intro _w; go_simp; (rw [IntKind.wrap_i64]; omega)); simp only [Act.put, List.setIfInBounds_toArray, List.set_cons_zero, List.set_cons_succ])
                        (refine wpD_plain 10 (v := ?_) rfl (by kernel_rfl) (by kernel_rfl) (by kernel_rfl) (fun _ _ _ h => h) (by rfl) ?_ (by assumption) ?_; rotate_left; (intro _w; go_simp; try with_reducible rfl); simp only [Act.put, List.setIfInBounds_toArray, List.set_cons_zero, List.set_cons_succ])
                        (refine wpD_plain 11 (v := (.int .i64 (J : Int))) rfl (by kernel_rfl) (by kernel_rfl) (by kernel_rfl) (fun _ _ _ h => h) (by rfl) ?_ (by assumption) ?_; (intro _w; go_simp; (have := HJ.out; rw [IntKind.wrap_i64]; omega)); simp only [Act.put, List.setIfInBounds_toArray, List.set_cons_zero, List.set_cons_succ])
                        (refine wpD_plain 12 (v := ?_) rfl (by kernel_rfl) (by kernel_rfl) (by kernel_rfl) (fun _ _ _ h => h) (by rfl) ?_ (by assumption) ?_; rotate_left; (intro _w; go_simp; try with_reducible rfl); simp only [Act.put, List.setIfInBounds_toArray, List.set_cons_zero, List.set_cons_succ])
                        (refine wpD_plain 13 (v := ?_) rfl (by kernel_rfl) (by kernel_rfl) (by kernel_rfl) (fun _ _ _ h => h) (by rfl) ?_ (by assumption) ?_; rotate_left; (intro _w; go_simp; try with_reducible rfl); simp only [Act.put, List.setIfInBounds_toArray, List.set_cons_zero, List.set_cons_succ])
                        (refine wpD_take 14 _ rfl (by kernel_rfl) (by kernel_rfl) (by kernel_rfl) (fun _ _ _ h => h) (List.mem_cons_of_mem _ List.mem_cons_self) (by rfl) (v := ?_) ?_ (by assumption) ?_; rotate_left; (intro _w _hw; go_simp; try with_reducible rfl); simp only [Act.put, List.setIfInBounds_toArray, List.set_cons_zero, List.set_cons_succ])
                        (refine wpD_plain 15 (v := ?_) rfl (by kernel_rfl) (by kernel_rfl) (by kernel_rfl) (fun _ _ _ h => h) (by rfl) ?_ (by assumption) ?_; rotate_left; (intro _w; go_simp; try with_reducible rfl); simp only [Act.put, List.setIfInBounds_toArray, List.set_cons_zero, List.set_cons_succ])
                        (refine wpD_plain 16 (v := ?_) rfl (by kernel_rfl) (by kernel_rfl) (by kernel_rfl) (fun _ _ _ h => h) (by rfl) ?_ (by assumption) ?_; rotate_left; (intro _w; go_simp; try with_reducible rfl); simp only [Act.put, List.setIfInBounds_toArray, List.set_cons_zero, List.set_cons_succ])
                        refine wpD_only 17 [] rfl (by kernel_rfl) (by kernel_rfl) (by rfl) (fun KS hKS => ?_)
                        refine wp_put _ _ _ rfl b5 J (rnd r (keys k r) X J) rfl rfl _ _ 16 HR.out.2.2.2.1.drew hJ16 info1 ?_
                        intro w5 HB5 HF5 HS5
                        refine hKS _ _ (Facts.nil_hold _) ?_
                        clear hKS KS
                        simp only [Act.put, List.setIfInBounds_toArray, List.set_cons_zero, List.set_cons_succ]
                        refine wpD_done (by kernel_rfl) ?_ _
                        have hb5 := HB5.out
                        rw [← HJ.out, upto_set] at hb5
                        have HR' : Hid (Blk w5 b2 27 (b8 (X) 16) ∧ Blk w5 b3 27 (b8 (fun _ => 0) 16) ∧ Blk w5 b4 28 (b8 (fl (keys k)) 176) ∧ Blk w5 b5 27 (b8 (upto (j * 4 + (m + 1)) (rnd r (keys k r) X) fun _ => 0) 16) ∧ Blk w5 b6 38 (b8 (aJ r X j) 4) ∧ Fr No w w5) := hid
                          ⟨HR.out.1.drew.fr HF5.out HN5.out.1, HR.out.2.1.drew.fr HF5.out HN5.out.2.1, HR.out.2.2.1.drew.fr HF5.out HN5.out.2.2, hb5, HR.out.2.2.2.2.1.drew.fr HF5.out (fun e => HN6.out.2.2.2 e.symm), HR.out.2.2.2.2.2.drew.trans HF5.out fun i e => .inr (by have := HW5.out; have : i = b5 := e; omega)⟩
                        clear HR HB5 HF5 HS5 hold hx hb5
                        go_wp2_with fail
                        go_roundw
                        case rel => exact ⟨m + 1, by omega, by go_num, HR'⟩
                        case measure => simp [intOf]; omega
                      · obtain rfl : m = 4 := by omega
                        have hr := HR.out
                        rw [show j * 4 + 4 = (j + 1) * 4 by omega] at hr
                        have HR' : Hid (Blk wr b2 27 (b8 (X) 16) ∧ Blk wr b3 27 (b8 (fun _ => 0) 16) ∧ Blk wr b4 28 (b8 (fl (keys k)) 176) ∧ Blk wr b5 27 (b8 (upto ((j + 1) * 4) (rnd r (keys k r) X) fun _ => 0) 16) ∧ Fr No w wr) := hid ⟨hr.1, hr.2.1, hr.2.2.1, hr.2.2.2.1, hr.2.2.2.2.2⟩
                        clear HR hr
                        go_wp2_with fail
                        go_roundw
                        case rel => exact ⟨j + 1, by omega, by go_num, HR'⟩
                        case measure => simp [intOf]; omega
            · obtain rfl : j = 4 := by omega
              have hr := HR.out
              rw [show b8 (upto (4 * 4) (rnd r (keys k r) X) fun _ => 0) 16 = b8 (rnd r (keys k r) X) 16 from upto_all _ _ 16, ← HST.out] at hr
              have HR0 := hid hr
              clear HR hr
              go_wp2_with (first
                | ((with_reducible show wpList _ _ _ ({ dst := _, op := .load 27 _, type := _, pos := _, after := _, guard := _ } :: _) _ _); refine wpL_all rfl _ _ rfl b5 rfl _ (rst k f r) 16 _ HR0.out.2.2.2.1 rfl rfl info16 ?_)
                | ((with_reducible show wpList _ _ _ ({ dst := _, op := .store 27 _ _, type := _, pos := _, after := _, guard := _ } :: _) _ _); refine wpL_whole rfl _ _ _ rfl b2 (rst k f r) 16 rfl rfl _ _ HR0.out.1 info16 ?_; intro w5 HB5 HF5 HS5)
                | fail)
              have HR' : Hid (Blk w5 b2 27 (b8 (rst k f r) 16) ∧ Blk w5 b3 27 (b8 (fun _ => 0) 16) ∧ Blk w5 b4 28 (b8 (fl (keys k)) 176) ∧ Fr No w w5) := hid
                ⟨HB5.out, HR0.out.2.1.fr HF5.out (fun e => HN.out.1 e.symm), HR0.out.2.2.1.fr HF5.out (fun e => HN.out.2.1 e.symm), HR0.out.2.2.2.2.trans HF5.out fun i e => .inr (by have := HW.out; have : i = b2 := e; omega)⟩
              clear HR0 HB5 HF5 HS5
              go_wp2_with fail
              go_roundw
              case rel => exact ⟨_, _, _, _, _, _, _, _, _, _, _, _, _, _, _, _, _, _, _, _, _, _, _, _, _, _, _, _, _, _, _, _, _, _, _, _, _, _, _, _, _, _, _, _, _, _, _, _, _, _, _, _, _, _, _, _, ⟨r, by omega, rfl, HR'⟩, rfl⟩
              case measure => simp [intOf]; omega
        · obtain rfl : n = 10 := by omega
          go_wp2_with (first
            | ((with_reducible show wpList _ _ _ ({ dst := _, op := .load 27 _, type := _, pos := _, after := _, guard := _ } :: _) _ _); refine wpL_all rfl _ _ rfl b2 rfl _ (rst k f 10) 16 _ HR.out.1 rfl rfl info16 ?_)
            | ((with_reducible show wpList _ _ _ ({ dst := _, op := .store 27 _ _, type := _, pos := _, after := _, guard := _ } :: _) _ _); refine wpL_whole rfl _ _ _ rfl b3 (rst k f 10) 16 rfl rfl _ _ HR.out.2.1 info16 ?_; intro w5 HB5 HF5 HS5)
            | fail)
          have hB5 := HB5.out
          rw [(rst_eq HK.out HF.out 10).b8] at hB5
          refine ret_cell rfl _ rfl hB5 rfl rfl (by simpa using info16) rfl ?_
          exact ⟨rfl, HR.out.2.2.2.trans HF5.out fun i e => .inr (by have := HW.out; have : i = b3 := e; omega)⟩
end Go.Proofs.Ytgbcddhgeepjgaa.AE
