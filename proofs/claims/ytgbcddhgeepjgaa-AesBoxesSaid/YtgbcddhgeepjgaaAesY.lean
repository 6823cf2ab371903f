/-
  The document's aes: Expand.
-/
import Derived.Test.YtgbcddhgeepjgaaAesX
namespace Go.Proofs.Ytgbcddhgeepjgaa.AE
set_option maxRecDepth 100000
open Go.RowKit K

theorem tS_four (t f : Nat → Nat) (m : Nat) : tS t f (m + 4) ((m + 4) % 4) = f m ^^^ tS t f m (m % 4) := by
  have e : (m + 4) % 4 = m % 4 := by omega
  rw [e]
  show (if m % 4 = (m + 3) % 4 then _ else if m % 4 = (m + 2) % 4 then _ else if m % 4 = (m + 1) % 4 then _ else if m % 4 = m % 4 then _ else _) = _
  rw [if_neg (by omega), if_neg (by omega), if_neg (by omega), if_pos rfl]
theorem tS_first (t f : Nat → Nat) {m : Nat} (h : m < 4) : tS t f m (m % 4) = t m := by
  have : m = 0 ∨ m = 1 ∨ m = 2 ∨ m = 3 := by omega
  rcases this with rfl | rfl | rfl | rfl <;> rfl
/-- Bytes that do not begin a round key are made of the one a column ahead. -/
theorem keys_in (k : Nat → Nat) {n m : Nat} (hn : 4 ≤ n) (hm : m < 4) (h : n % 4 ≠ 0) : fl (keys k) ((n - 4) * 4 + m) ^^^ fl (keys k) ((n - 1) * 4 + m) = fl (keys k) (n * 4 + m) := by
  obtain ⟨r, hr⟩ : ∃ r, n / 4 = r + 1 := ⟨n / 4 - 1, by omega⟩
  unfold fl
  rw [show ((n - 4) * 4 + m) / 16 = r by omega, show ((n - 1) * 4 + m) / 16 = r + 1 by omega, show (n * 4 + m) / 16 = r + 1 by omega, show ((n - 4) * 4 + m) % 16 = (n * 4 + m) % 16 by omega]
  obtain ⟨j, hj⟩ : ∃ j, (n * 4 + m) % 16 = j + 4 := ⟨(n * 4 + m) % 16 - 4, by omega⟩
  rw [show ((n - 1) * 4 + m) % 16 = j by omega, hj]
  show _ = keys k r (j + 4) ^^^ tS (t0 (keys k r) (con r)) (keys k r) (j + 4) ((j + 4) % 4)
  rw [tS_four]
  rfl
/-- Those that do are made of the last column's boxes. -/
theorem keys_at (k : Nat → Nat) {n m : Nat} (hn : 4 ≤ n) (hm : m < 4) (h : n % 4 = 0) :
    fl (keys k) ((n - 4) * 4 + m) ^^^ (if m = 0 then box (fl (keys k) ((n - 1) * 4 + (m + 1) % 4)) ^^^ con ((n - 1) / 4) else box (fl (keys k) ((n - 1) * 4 + (m + 1) % 4))) = fl (keys k) (n * 4 + m) := by
  obtain ⟨r, hr⟩ : ∃ r, n = 4 * (r + 1) := ⟨n / 4 - 1, by omega⟩
  subst hr
  unfold fl
  rw [show ((4 * (r + 1) - 4) * 4 + m) / 16 = r by omega, show ((4 * (r + 1) - 1) * 4 + (m + 1) % 4) / 16 = r by omega, show (4 * (r + 1) * 4 + m) / 16 = r + 1 by omega, show ((4 * (r + 1) - 4) * 4 + m) % 16 = m by omega,
    show ((4 * (r + 1) - 1) * 4 + (m + 1) % 4) % 16 = 12 + (m + 1) % 4 by omega, show (4 * (r + 1) * 4 + m) % 16 = m by omega, show (4 * (r + 1) - 1) / 4 = r by omega]
  show _ = keys k r m ^^^ tS (t0 (keys k r) (con r)) (keys k r) m (m % 4)
  rw [tS_first _ _ hm]
  have : m = 0 ∨ m = 1 ∨ m = 2 ∨ m = 3 := by omega
  rcases this with rfl | rfl | rfl | rfl <;> rfl
theorem con_next (n : Nat) : con ((n + 1 - 1) / 4) = if 4 ≤ n ∧ n % 4 = 0 then times (con ((n - 1) / 4)) 2 else con ((n - 1) / 4) := by
  by_cases h : 4 ≤ n ∧ n % 4 = 0
  · rw [if_pos h, show (n + 1 - 1) / 4 = (n - 1) / 4 + 1 by omega]
    rfl
  · rw [if_neg h, show (n + 1 - 1) / 4 = (n - 1) / 4 by omega]
theorem fl_by {k : Nat → Nat} (h : By k) : By (fl (keys k)) := fun _ => keys_by h _ _
theorem fl_first (k : Nat → Nat) {j : Nat} (h : j < 16) : fl (keys k) j = k j := by
  unfold fl
  rw [show j / 16 = 0 by omega, show j % 16 = j by omega]
  rfl
theorem zero44 (w : World) : (zeroValue 39).run Try.prog w = .ok (bk (fun _ => 0) 176) w := by kernel_rfl

set_option maxHeartbeats 2000000 in
theorem rexp_any (k : Nat → Nat) (w : World) (hk : By k) : Calls Try.prog 16 #[bk k 16] w fun e w' =>
    e = .returned (bk (fl (keys k)) 176) ∧ Fr No w w' := by
  have HK := hid hk; clear hk
  go_enter Try.func16, Try.ntmps16
  go_wp2_with (first
    | ((with_reducible show wpList _ _ _ ({ dst := _, op := .box 27 _, type := _, pos := _, after := _, guard := _ } :: _) _ _); refine wpL_box rfl _ _ rfl (bk k 16) rfl (b8 k 16) rfl ?_; intro w1 HB1 HF1 HS1)
    | ((with_reducible show wpList _ _ _ ({ dst := _, op := .alloc 28, type := _, pos := _, after := _, guard := _ } :: _) _ _); refine wpL_alloc rfl _ rfl _ zero176 (b8 (fun _ => 0) 176) rfl ?_; intro w2 HB2 HF2 HS2)
    | ((with_reducible show wpList _ _ _ ({ dst := _, op := .alloc 39, type := _, pos := _, after := _, guard := _ } :: _) _ _); refine wpL_alloc rfl _ rfl _ zero44 (b8 (fun _ => 0) 176) rfl ?_; intro w3 HB3 HF3 HS3))
  have hB1 := (HB1.out.fr HF2.out id).fr HF3.out id
  have hB2 := HB2.out.fr HF3.out id
  have hB3 := HB3.out
  have hf3 := (HF1.out.trans' HF2.out).trans' HF3.out
  obtain ⟨b1, hb1⟩ : ∃ b, w.heap.size = b := ⟨_, rfl⟩
  obtain ⟨b2, hb2⟩ : ∃ b, w1.heap.size = b := ⟨_, rfl⟩
  obtain ⟨b3, hb3⟩ : ∃ b, w2.heap.size = b := ⟨_, rfl⟩
  have hs1 := HS1.out; have hs2 := HS2.out
  rw [hb1, hb2] at hs1; rw [hb2, hb3] at hs2
  rw [hb1] at hB1; rw [hb2] at hB2; rw [hb3] at hB3
  rw [hb1, hb2, hb3]
  have HW := hid (show w.heap.size ≤ b3 ∧ w.heap.size ≤ b2 by omega); have HN := hid (show b1 ≠ b2 ∧ b1 ≠ b3 ∧ b2 ≠ b3 by omega)
  have HR := hid (show Blk w3 b1 27 (b8 k 16) ∧ Blk w3 b2 28 (b8 (fun _ => 0) 176) ∧ Blk w3 b3 39 (b8 (upto (0 * 4) (fl (keys k)) fun _ => 0) 176) ∧ Fr No w w3 by rw [Nat.zero_mul, upto_zero]; exact ⟨hB1, hB2, hB3, hf3⟩)
  clear HB1 HB2 HB3 HF1 HF2 HF3 HS1 HS2 HS3 hB1 hB2 hB3 hf3 hb1 hb2 hb3 hs1 hs2
  go_loopw [4, 5, 6, 7] (fun c i _ _ wr => ∃ n : Nat, n ≤ 44 ∧ i = .int .i64 n ∧ c = .int .u8 (con ((n - 1) / 4) : Nat) ∧ Hid (Blk wr b1 27 (b8 k 16) ∧ Blk wr b2 28 (b8 (fun _ => 0) 176) ∧ Blk wr b3 39 (b8 (upto (n * 4) (fl (keys k)) fun _ => 0) 176) ∧ Fr No w wr)) (fun _ i _ _ _ => 44 - (intOf i).toNat)
  case atStart => exact ⟨0, by omega, rfl, rfl, HR⟩
  case round =>
    clear HR
    obtain ⟨n, hn, rfl, rfl, HR⟩ := hrel
    by_cases hlt : n < 44
    · obtain ⟨c, hc⟩ : ∃ c, con ((n - 1) / 4) = c := ⟨_, rfl⟩
      have HC := hid hc
      have HCL := hid (hc ▸ con_lt _ : c < 256)
      rw [hc]
      clear hc
      go_wp2_with fail
      rw [show n * 4 = n * 4 + 0 from rfl] at HR
      go_loopw [6, 7] (fun i _ wr => ∃ m : Nat, m ≤ 4 ∧ i = .int .i64 m ∧ Hid (Blk wr b1 27 (b8 k 16) ∧ Blk wr b2 28 (b8 (fun _ => 0) 176) ∧ Blk wr b3 39 (b8 (upto (n * 4 + m) (fl (keys k)) fun _ => 0) 176) ∧ Fr No w wr)) (fun i _ _ => 4 - (intOf i).toNat)
      case atStart => exact ⟨0, by omega, rfl, HR⟩
      case round =>
        clear HR
        obtain ⟨m, hm, rfl, HR⟩ := hrel
        by_cases hlt2 : m < 4
        · by_cases hn4 : n < 4
          · obtain ⟨J, hJ⟩ : ∃ J, n * 4 + m = J := ⟨_, rfl⟩
            have hJ16 : J < 16 := by omega
            have hJi : (J : Int) < 16 := by omega
            have HJ := hid hJ
            clear hJ
            go_wp2_with fail
            have c1 := blk_at HR.out.1 hJ16
            have hold : Facts.hold [(7, fun w' => w'.cell? ⟨b1, J, none⟩ = some (.int .u8 (k J : Int)))] wr.drew := Facts.cons_hold c1 (Facts.nil_hold _)
            clear c1
            refine wpD_region hold (by kernel_rfl) 11 rfl ?_
            (refine wpD_plain 0 (v := ?_) rfl (by kernel_rfl) (by kernel_rfl) (by kernel_rfl) (fun _ _ _ h => h) (by rfl) ?_ (by assumption) ?_; rotate_left; (intro _w; go_simp; try with_reducible rfl); simp only [Act.put, List.setIfInBounds_toArray, List.set_cons_zero, List.set_cons_succ])
            (refine wpD_plain 1 (v := ?_) rfl (by kernel_rfl) (by kernel_rfl) (by kernel_rfl) (fun _ _ _ h => h) (by rfl) ?_ (by assumption) ?_; rotate_left; (intro _w; go_simp; try with_reducible rfl); simp only [Act.put, List.setIfInBounds_toArray, List.set_cons_zero, List.set_cons_succ])
            (refine wpD_plain 2 (v := ?_) rfl (by kernel_rfl) (by kernel_rfl) (by kernel_rfl) (fun _ _ _ h => h) (by rfl) ?_ (by assumption) ?_; rotate_left; (intro _w; go_simp; try with_reducible rfl); simp only [Act.put, List.setIfInBounds_toArray, List.set_cons_zero, List.set_cons_succ])
            (refine wpD_plain 3 (v := (.int .i64 ((4 * n : Nat) : Int))) rfl (by kernel_rfl) (by kernel_rfl) (by kernel_rfl) (fun _ _ _ h => h) (by rfl) ?_ (by assumption) ?_; (intro _w; go_simp; (rw [IntKind.wrap_i64]; omega)); simp only [Act.put, List.setIfInBounds_toArray, List.set_cons_zero, List.set_cons_succ])
            (refine wpD_plain 4 (v := ?_) rfl (by kernel_rfl) (by kernel_rfl) (by kernel_rfl) (fun _ _ _ h => h) (by rfl) ?_ (by assumption) ?_; rotate_left; (intro _w; go_simp; try with_reducible rfl); simp only [Act.put, List.setIfInBounds_toArray, List.set_cons_zero, List.set_cons_succ])
            (refine wpD_plain 5 (v := (.int .i64 (J : Int))) rfl (by kernel_rfl) (by kernel_rfl) (by kernel_rfl) (fun _ _ _ h => h) (by rfl) ?_ (by assumption) ?_; (intro _w; go_simp; (have := HJ.out; rw [IntKind.wrap_i64]; omega)); simp only [Act.put, List.setIfInBounds_toArray, List.set_cons_zero, List.set_cons_succ])
            (refine wpD_plain 6 (v := ?_) rfl (by kernel_rfl) (by kernel_rfl) (by kernel_rfl) (fun _ _ _ h => h) (by rfl) ?_ (by assumption) ?_; rotate_left; (intro _w; go_simp; try with_reducible rfl); simp only [Act.put, List.setIfInBounds_toArray, List.set_cons_zero, List.set_cons_succ])
            (refine wpD_take 7 _ rfl (by kernel_rfl) (by kernel_rfl) (by kernel_rfl) (fun _ _ _ h => h) List.mem_cons_self (by rfl) (v := ?_) ?_ (by assumption) ?_; rotate_left; (intro _w _hw; go_simp; try with_reducible rfl); simp only [Act.put, List.setIfInBounds_toArray, List.set_cons_zero, List.set_cons_succ])
            (refine wpD_plain 8 (v := ?_) rfl (by kernel_rfl) (by kernel_rfl) (by kernel_rfl) (fun _ _ _ h => h) (by rfl) ?_ (by assumption) ?_; rotate_left; (intro _w; go_simp; try with_reducible rfl); simp only [Act.put, List.setIfInBounds_toArray, List.set_cons_zero, List.set_cons_succ])
            (refine wpD_plain 9 (v := ?_) rfl (by kernel_rfl) (by kernel_rfl) (by kernel_rfl) (fun _ _ _ h => h) (by rfl) ?_ (by assumption) ?_; rotate_left; (intro _w; go_simp; try with_reducible rfl); simp only [Act.put, List.setIfInBounds_toArray, List.set_cons_zero, List.set_cons_succ])
            refine wpD_only 10 [] rfl (by kernel_rfl) (by kernel_rfl) (by rfl) (fun KS hKS => ?_)
            refine wp_put _ _ _ rfl b3 (n * 4 + m) (fl (keys k) (n * 4 + m)) rfl (by rw [HJ.out, fl_first k hJ16]; rfl) _ _ 176 HR.out.2.2.1.drew (by omega) info1 ?_
            intro w5 HB5 HF5 HS5
            refine hKS _ _ (Facts.nil_hold _) ?_
            clear hKS KS
            simp only [Act.put, List.setIfInBounds_toArray, List.set_cons_zero, List.set_cons_succ]
            refine wpD_done (by kernel_rfl) ?_ _
            have HR' := hid (show Blk w5 b1 27 (b8 k 16) ∧ Blk w5 b2 28 (b8 (fun _ => 0) 176) ∧ Blk w5 b3 39 (b8 (upto (n * 4 + (m + 1)) (fl (keys k)) fun _ => 0) 176) ∧ Fr No w w5 by
              rw [← Nat.add_assoc, ← upto_set]
              exact ⟨HR.out.1.drew.fr HF5.out HN.out.2.1, HR.out.2.1.drew.fr HF5.out HN.out.2.2, HB5.out, HR.out.2.2.2.drew.trans HF5.out fun i e => .inr (by have := HW.out; have : i = b3 := e; omega)⟩)
            clear HR HB5 HF5 HS5 hold
            go_wp2_with fail
            go_roundw
            case rel => exact ⟨m + 1, by omega, by go_num, HR'⟩
            case measure => simp [intOf]; omega
          · have q : ∀ j, j < n * 4 + m → upto (n * 4 + m) (fl (keys k)) (fun _ => 0) j = fl (keys k) j := fun j hj => by unfold upto; rw [if_pos hj]
            have c1 := blk_at HR.out.2.2.1 (i := (n - 1) * 4 + m) (by omega)
            rw [q _ (by omega)] at c1
            by_cases h4 : n % 4 = 0
            · have c2 := blk_at HR.out.2.2.1 (i := (n - 1) * 4 + (m + 1) % 4) (by omega)
              rw [q _ (by omega)] at c2
              clear q
              go_wp2_with fail
              refine (rbox_any (fl (keys k) ((n - 1) * 4 + (m + 1) % 4)) _ (fl_by HK.out _)).mono ?_
              rintro e w' ⟨rfl, rfl⟩
              clear c1 c2
              by_cases h0 : m = 0
              · have hx0 : bits .xor .u8 (box (fl (keys k) ((n - 1) * 4 + (m + 1) % 4)) : Nat) (c : Int) = ((box (fl (keys k) ((n - 1) * 4 + (m + 1) % 4)) ^^^ c : Nat) : Int) := xor8 (box_lt (fl_by HK.out _)) HCL.out
                have h0i : ((m : Int) == 0) = true := by rw [beq_iff_eq]; omega
                have H0 := hid h0
                clear h0
                go_wp2_with fail
                clear h0i
                have hT : fl (keys k) ((n - 4) * 4 + m) ^^^ (box (fl (keys k) ((n - 1) * 4 + (m + 1) % 4)) ^^^ c) = fl (keys k) (n * 4 + m) := by have := keys_at k (n := n) (m := m) (by omega) hlt2 h4; rw [if_pos H0.out, HC.out] at this; exact this
                have c3 := blk_at HR.out.2.2.1 (i := (n - 4) * 4 + m) (by omega)
                have q3 : upto (n * 4 + m) (fl (keys k)) (fun _ => 0) ((n - 4) * 4 + m) = fl (keys k) ((n - 4) * 4 + m) := by unfold upto; rw [if_pos (by omega)]
                rw [q3] at c3
                have hlT : (box (fl (keys k) ((n - 1) * 4 + (m + 1) % 4)) ^^^ c) < 256 := xor_lt (box_lt (fl_by HK.out _)) HCL.out
                have hx := xor8 (fl_by HK.out ((n - 4) * 4 + m)) hlT
                rw [hT] at hx
                obtain ⟨N, hN⟩ : ∃ N, n - 4 = N := ⟨_, rfl⟩
                have hNi : (N : Int) < 44 := by omega
                rw [hN] at c3 hx
                have HN4 := hid hN
                clear hT q3 hlT hN
                have hold : Facts.hold [(7, fun w' => w'.cell? ⟨b3, N * 4 + m, none⟩ = some (.int .u8 (fl (keys k) (N * 4 + m) : Int)))] wr.drew := Facts.cons_hold c3 (Facts.nil_hold _)
                clear c3
                refine wpD_region hold (by kernel_rfl) 13 rfl ?_
                (refine wpD_plain 0 (v := ?_) rfl (by kernel_rfl) (by kernel_rfl) (by kernel_rfl) (fun _ _ _ h => h) (by rfl) ?_ (by assumption) ?_; rotate_left; (intro _w; go_simp; try with_reducible rfl); simp only [Act.put, List.setIfInBounds_toArray, List.set_cons_zero, List.set_cons_succ])
                (refine wpD_plain 1 (v := ?_) rfl (by kernel_rfl) (by kernel_rfl) (by kernel_rfl) (fun _ _ _ h => h) (by rfl) ?_ (by assumption) ?_; rotate_left; (intro _w; go_simp; try with_reducible rfl); simp only [Act.put, List.setIfInBounds_toArray, List.set_cons_zero, List.set_cons_succ])
                (refine wpD_plain 2 (v := ?_) rfl (by kernel_rfl) (by kernel_rfl) (by kernel_rfl) (fun _ _ _ h => h) (by rfl) ?_ (by assumption) ?_; rotate_left; (intro _w; go_simp; try with_reducible rfl); simp only [Act.put, List.setIfInBounds_toArray, List.set_cons_zero, List.set_cons_succ])
                (refine wpD_plain 3 (v := (.int .i64 (N : Int))) rfl (by kernel_rfl) (by kernel_rfl) (by kernel_rfl) (fun _ _ _ h => h) (by rfl) ?_ (by assumption) ?_; (intro _w; go_simp; (have := HN4.out; rw [IntKind.wrap_i64]; omega)); simp only [Act.put, List.setIfInBounds_toArray, List.set_cons_zero, List.set_cons_succ])
                (refine wpD_plain 4 (v := ?_) rfl (by kernel_rfl) (by kernel_rfl) (by kernel_rfl) (fun _ _ _ h => h) (by rfl) ?_ (by assumption) ?_; rotate_left; (intro _w; go_simp; try with_reducible rfl); simp only [Act.put, List.setIfInBounds_toArray, List.set_cons_zero, List.set_cons_succ])
                (refine wpD_plain 5 (v := ?_) rfl (by kernel_rfl) (by kernel_rfl) (by kernel_rfl) (fun _ _ _ h => h) (by rfl) ?_ (by assumption) ?_; rotate_left; (intro _w; go_simp; try with_reducible rfl); simp only [Act.put, List.setIfInBounds_toArray, List.set_cons_zero, List.set_cons_succ])
                (refine wpD_plain 6 (v := ?_) rfl (by kernel_rfl) (by kernel_rfl) (by kernel_rfl) (fun _ _ _ h => h) (by rfl) ?_ (by assumption) ?_; rotate_left; (intro _w; go_simp; try with_reducible rfl); simp only [Act.put, List.setIfInBounds_toArray, List.set_cons_zero, List.set_cons_succ])
                (refine wpD_take 7 _ rfl (by kernel_rfl) (by kernel_rfl) (by kernel_rfl) (fun _ _ _ h => h) List.mem_cons_self (by rfl) (v := ?_) ?_ (by assumption) ?_; rotate_left; (intro _w _hw; go_simp; try with_reducible rfl); simp only [Act.put, List.setIfInBounds_toArray, List.set_cons_zero, List.set_cons_succ])
                (refine wpD_plain 8 (v := ?_) rfl (by kernel_rfl) (by kernel_rfl) (by kernel_rfl) (fun _ _ _ h => h) (by rfl) ?_ (by assumption) ?_; rotate_left; (intro _w; go_simp; try with_reducible rfl); simp only [Act.put, List.setIfInBounds_toArray, List.set_cons_zero, List.set_cons_succ])
                (refine wpD_plain 9 (v := ?_) rfl (by kernel_rfl) (by kernel_rfl) (by kernel_rfl) (fun _ _ _ h => h) (by rfl) ?_ (by assumption) ?_; rotate_left; (intro _w; go_simp; try with_reducible rfl); simp only [Act.put, List.setIfInBounds_toArray, List.set_cons_zero, List.set_cons_succ])
                (refine wpD_plain 10 (v := ?_) rfl (by kernel_rfl) (by kernel_rfl) (by kernel_rfl) (fun _ _ _ h => h) (by rfl) ?_ (by assumption) ?_; rotate_left; (intro _w; go_simp; try with_reducible rfl); simp only [Act.put, List.setIfInBounds_toArray, List.set_cons_zero, List.set_cons_succ])
                (refine wpD_plain 11 (v := ?_) rfl (by kernel_rfl) (by kernel_rfl) (by kernel_rfl) (fun _ _ _ h => h) (by rfl) ?_ (by assumption) ?_; rotate_left; (intro _w; go_simp; try with_reducible rfl); simp only [Act.put, List.setIfInBounds_toArray, List.set_cons_zero, List.set_cons_succ])
                refine wpD_only 12 [] rfl (by kernel_rfl) (by kernel_rfl) (by rfl) (fun KS hKS => ?_)
                refine wp_put _ _ _ rfl b3 (n * 4 + m) (fl (keys k) (n * 4 + m)) rfl rfl _ _ 176 HR.out.2.2.1.drew (by omega) info1 ?_
                clear hx hx0
                intro w5 HB5 HF5 HS5
                refine hKS _ _ (Facts.nil_hold _) ?_
                clear hKS KS
                simp only [Act.put, List.setIfInBounds_toArray, List.set_cons_zero, List.set_cons_succ]
                refine wpD_done (by kernel_rfl) ?_ _
                have HR' := hid (show Blk w5 b1 27 (b8 k 16) ∧ Blk w5 b2 28 (b8 (fun _ => 0) 176) ∧ Blk w5 b3 39 (b8 (upto (n * 4 + (m + 1)) (fl (keys k)) fun _ => 0) 176) ∧ Fr No w w5 by
                  rw [← Nat.add_assoc, ← upto_set]
                  exact ⟨HR.out.1.drew.fr HF5.out HN.out.2.1, HR.out.2.1.drew.fr HF5.out HN.out.2.2, HB5.out, HR.out.2.2.2.drew.trans HF5.out fun i e => .inr (by have := HW.out; have : i = b3 := e; omega)⟩)
                clear HR HB5 HF5 HS5 hold
                go_wp2_with fail
                go_roundw
                case rel => exact ⟨m + 1, by omega, by go_num, HR'⟩
                case measure => simp [intOf]; omega
              · have h0i : ((m : Int) == 0) = false := by rw [beq_eq_false_iff_ne]; omega
                go_wp2_with fail
                have hT : fl (keys k) ((n - 4) * 4 + m) ^^^ (box (fl (keys k) ((n - 1) * 4 + (m + 1) % 4))) = fl (keys k) (n * 4 + m) := by have := keys_at k (n := n) (m := m) (by omega) hlt2 h4; rw [if_neg h0] at this; exact this
                have c3 := blk_at HR.out.2.2.1 (i := (n - 4) * 4 + m) (by omega)
                have q3 : upto (n * 4 + m) (fl (keys k)) (fun _ => 0) ((n - 4) * 4 + m) = fl (keys k) ((n - 4) * 4 + m) := by unfold upto; rw [if_pos (by omega)]
                rw [q3] at c3
                have hlT : (box (fl (keys k) ((n - 1) * 4 + (m + 1) % 4))) < 256 := box_lt (fl_by HK.out _)
                have hx := xor8 (fl_by HK.out ((n - 4) * 4 + m)) hlT
                rw [hT] at hx
                obtain ⟨N, hN⟩ : ∃ N, n - 4 = N := ⟨_, rfl⟩
                have hNi : (N : Int) < 44 := by omega
                rw [hN] at c3 hx
                have HN4 := hid hN
                clear hT q3 hlT hN
                have hold : Facts.hold [(7, fun w' => w'.cell? ⟨b3, N * 4 + m, none⟩ = some (.int .u8 (fl (keys k) (N * 4 + m) : Int)))] wr.drew := Facts.cons_hold c3 (Facts.nil_hold _)
                clear c3
                refine wpD_region hold (by kernel_rfl) 13 rfl ?_
                (refine wpD_plain 0 (v := ?_) rfl (by kernel_rfl) (by kernel_rfl) (by kernel_rfl) (fun _ _ _ h => h) (by rfl) ?_ (by assumption) ?_; rotate_left; (intro _w; go_simp; try with_reducible rfl); simp only [Act.put, List.setIfInBounds_toArray, List.set_cons_zero, List.set_cons_succ])
                (refine wpD_plain 1 (v := ?_) rfl (by kernel_rfl) (by kernel_rfl) (by kernel_rfl) (fun _ _ _ h => h) (by rfl) ?_ (by assumption) ?_; rotate_left; (intro _w; go_simp; try with_reducible rfl); simp only [Act.put, List.setIfInBounds_toArray, List.set_cons_zero, List.set_cons_succ])
                (refine wpD_plain 2 (v := ?_) rfl (by kernel_rfl) (by kernel_rfl) (by kernel_rfl) (fun _ _ _ h => h) (by rfl) ?_ (by assumption) ?_; rotate_left; (intro _w; go_simp; try with_reducible rfl); simp only [Act.put, List.setIfInBounds_toArray, List.set_cons_zero, List.set_cons_succ])
                (refine wpD_plain 3 (v := (.int .i64 (N : Int))) rfl (by kernel_rfl) (by kernel_rfl) (by kernel_rfl) (fun _ _ _ h => h) (by rfl) ?_ (by assumption) ?_; (intro _w; go_simp; (have := HN4.out; rw [IntKind.wrap_i64]; omega)); simp only [Act.put, List.setIfInBounds_toArray, List.set_cons_zero, List.set_cons_succ])
                (refine wpD_plain 4 (v := ?_) rfl (by kernel_rfl) (by kernel_rfl) (by kernel_rfl) (fun _ _ _ h => h) (by rfl) ?_ (by assumption) ?_; rotate_left; (intro _w; go_simp; try with_reducible rfl); simp only [Act.put, List.setIfInBounds_toArray, List.set_cons_zero, List.set_cons_succ])
                (refine wpD_plain 5 (v := ?_) rfl (by kernel_rfl) (by kernel_rfl) (by kernel_rfl) (fun _ _ _ h => h) (by rfl) ?_ (by assumption) ?_; rotate_left; (intro _w; go_simp; try with_reducible rfl); simp only [Act.put, List.setIfInBounds_toArray, List.set_cons_zero, List.set_cons_succ])
                (refine wpD_plain 6 (v := ?_) rfl (by kernel_rfl) (by kernel_rfl) (by kernel_rfl) (fun _ _ _ h => h) (by rfl) ?_ (by assumption) ?_; rotate_left; (intro _w; go_simp; try with_reducible rfl); simp only [Act.put, List.setIfInBounds_toArray, List.set_cons_zero, List.set_cons_succ])
                (refine wpD_take 7 _ rfl (by kernel_rfl) (by kernel_rfl) (by kernel_rfl) (fun _ _ _ h => h) List.mem_cons_self (by rfl) (v := ?_) ?_ (by assumption) ?_; rotate_left; (intro _w _hw; go_simp; try with_reducible rfl); simp only [Act.put, List.setIfInBounds_toArray, List.set_cons_zero, List.set_cons_succ])
                (refine wpD_plain 8 (v := ?_) rfl (by kernel_rfl) (by kernel_rfl) (by kernel_rfl) (fun _ _ _ h => h) (by rfl) ?_ (by assumption) ?_; rotate_left; (intro _w; go_simp; try with_reducible rfl); simp only [Act.put, List.setIfInBounds_toArray, List.set_cons_zero, List.set_cons_succ])
                (refine wpD_plain 9 (v := ?_) rfl (by kernel_rfl) (by kernel_rfl) (by kernel_rfl) (fun _ _ _ h => h) (by rfl) ?_ (by assumption) ?_; rotate_left; (intro _w; go_simp; try with_reducible rfl); simp only [Act.put, List.setIfInBounds_toArray, List.set_cons_zero, List.set_cons_succ])
                (refine wpD_plain 10 (v := ?_) rfl (by kernel_rfl) (by kernel_rfl) (by kernel_rfl) (fun _ _ _ h => h) (by rfl) ?_ (by assumption) ?_; rotate_left; (intro _w; go_simp; try with_reducible rfl); simp only [Act.put, List.setIfInBounds_toArray, List.set_cons_zero, List.set_cons_succ])
                (refine wpD_plain 11 (v := ?_) rfl (by kernel_rfl) (by kernel_rfl) (by kernel_rfl) (fun _ _ _ h => h) (by rfl) ?_ (by assumption) ?_; rotate_left; (intro _w; go_simp; try with_reducible rfl); simp only [Act.put, List.setIfInBounds_toArray, List.set_cons_zero, List.set_cons_succ])
                refine wpD_only 12 [] rfl (by kernel_rfl) (by kernel_rfl) (by rfl) (fun KS hKS => ?_)
                refine wp_put _ _ _ rfl b3 (n * 4 + m) (fl (keys k) (n * 4 + m)) rfl rfl _ _ 176 HR.out.2.2.1.drew (by omega) info1 ?_
                clear hx
                intro w5 HB5 HF5 HS5
                refine hKS _ _ (Facts.nil_hold _) ?_
                clear hKS KS
                simp only [Act.put, List.setIfInBounds_toArray, List.set_cons_zero, List.set_cons_succ]
                refine wpD_done (by kernel_rfl) ?_ _
                have HR' := hid (show Blk w5 b1 27 (b8 k 16) ∧ Blk w5 b2 28 (b8 (fun _ => 0) 176) ∧ Blk w5 b3 39 (b8 (upto (n * 4 + (m + 1)) (fl (keys k)) fun _ => 0) 176) ∧ Fr No w w5 by
                  rw [← Nat.add_assoc, ← upto_set]
                  exact ⟨HR.out.1.drew.fr HF5.out HN.out.2.1, HR.out.2.1.drew.fr HF5.out HN.out.2.2, HB5.out, HR.out.2.2.2.drew.trans HF5.out fun i e => .inr (by have := HW.out; have : i = b3 := e; omega)⟩)
                clear HR HB5 HF5 HS5 hold
                go_wp2_with fail
                go_roundw
                case rel => exact ⟨m + 1, by omega, by go_num, HR'⟩
                case measure => simp [intOf]; omega
            · clear q
              go_wp2_with fail
              clear c1
              have hT : fl (keys k) ((n - 4) * 4 + m) ^^^ (fl (keys k) ((n - 1) * 4 + m)) = fl (keys k) (n * 4 + m) := keys_in k (by omega) hlt2 h4
              have c3 := blk_at HR.out.2.2.1 (i := (n - 4) * 4 + m) (by omega)
              have q3 : upto (n * 4 + m) (fl (keys k)) (fun _ => 0) ((n - 4) * 4 + m) = fl (keys k) ((n - 4) * 4 + m) := by unfold upto; rw [if_pos (by omega)]
              rw [q3] at c3
              have hlT : (fl (keys k) ((n - 1) * 4 + m)) < 256 := fl_by HK.out _
              have hx := xor8 (fl_by HK.out ((n - 4) * 4 + m)) hlT
              rw [hT] at hx
              obtain ⟨N, hN⟩ : ∃ N, n - 4 = N := ⟨_, rfl⟩
              have hNi : (N : Int) < 44 := by omega
              rw [hN] at c3 hx
              have HN4 := hid hN
              clear hT q3 hlT hN
              have hold : Facts.hold [(7, fun w' => w'.cell? ⟨b3, N * 4 + m, none⟩ = some (.int .u8 (fl (keys k) (N * 4 + m) : Int)))] wr.drew := Facts.cons_hold c3 (Facts.nil_hold _)
              clear c3
              refine wpD_region hold (by kernel_rfl) 13 rfl ?_
              (refine wpD_plain 0 (v := ?_) rfl (by kernel_rfl) (by kernel_rfl) (by kernel_rfl) (fun _ _ _ h => h) (by rfl) ?_ (by assumption) ?_; rotate_left; (intro _w; go_simp; try with_reducible rfl); simp only [Act.put, List.setIfInBounds_toArray, List.set_cons_zero, List.set_cons_succ])
              (refine wpD_plain 1 (v := ?_) rfl (by kernel_rfl) (by kernel_rfl) (by kernel_rfl) (fun _ _ _ h => h) (by rfl) ?_ (by assumption) ?_; rotate_left; (intro _w; go_simp; try with_reducible rfl); simp only [Act.put, List.setIfInBounds_toArray, List.set_cons_zero, List.set_cons_succ])
              (refine wpD_plain 2 (v := ?_) rfl (by kernel_rfl) (by kernel_rfl) (by kernel_rfl) (fun _ _ _ h => h) (by rfl) ?_ (by assumption) ?_; rotate_left; (intro _w; go_simp; try with_reducible rfl); simp only [Act.put, List.setIfInBounds_toArray, List.set_cons_zero, List.set_cons_succ])
              (refine wpD_plain 3 (v := (.int .i64 (N : Int))) rfl (by kernel_rfl) (by kernel_rfl) (by kernel_rfl) (fun _ _ _ h => h) (by rfl) ?_ (by assumption) ?_; (intro _w; go_simp; (have := HN4.out; rw [IntKind.wrap_i64]; omega)); simp only [Act.put, List.setIfInBounds_toArray, List.set_cons_zero, List.set_cons_succ])
              (refine wpD_plain 4 (v := ?_) rfl (by kernel_rfl) (by kernel_rfl) (by kernel_rfl) (fun _ _ _ h => h) (by rfl) ?_ (by assumption) ?_; rotate_left; (intro _w; go_simp; try with_reducible rfl); simp only [Act.put, List.setIfInBounds_toArray, List.set_cons_zero, List.set_cons_succ])
              (refine wpD_plain 5 (v := ?_) rfl (by kernel_rfl) (by kernel_rfl) (by kernel_rfl) (fun _ _ _ h => h) (by rfl) ?_ (by assumption) ?_; rotate_left; (intro _w; go_simp; try with_reducible rfl); simp only [Act.put, List.setIfInBounds_toArray, List.set_cons_zero, List.set_cons_succ])
              (refine wpD_plain 6 (v := ?_) rfl (by kernel_rfl) (by kernel_rfl) (by kernel_rfl) (fun _ _ _ h => h) (by rfl) ?_ (by assumption) ?_; rotate_left; (intro _w; go_simp; try with_reducible rfl); simp only [Act.put, List.setIfInBounds_toArray, List.set_cons_zero, List.set_cons_succ])
              (refine wpD_take 7 _ rfl (by kernel_rfl) (by kernel_rfl) (by kernel_rfl) (fun _ _ _ h => h) List.mem_cons_self (by rfl) (v := ?_) ?_ (by assumption) ?_; rotate_left; (intro _w _hw; go_simp; try with_reducible rfl); simp only [Act.put, List.setIfInBounds_toArray, List.set_cons_zero, List.set_cons_succ])
              (refine wpD_plain 8 (v := ?_) rfl (by kernel_rfl) (by kernel_rfl) (by kernel_rfl) (fun _ _ _ h => h) (by rfl) ?_ (by assumption) ?_; rotate_left; (intro _w; go_simp; try with_reducible rfl); simp only [Act.put, List.setIfInBounds_toArray, List.set_cons_zero, List.set_cons_succ])
              (refine wpD_plain 9 (v := ?_) rfl (by kernel_rfl) (by kernel_rfl) (by kernel_rfl) (fun _ _ _ h => h) (by rfl) ?_ (by assumption) ?_; rotate_left; (intro _w; go_simp; try with_reducible rfl); simp only [Act.put, List.setIfInBounds_toArray, List.set_cons_zero, List.set_cons_succ])
              (refine wpD_plain 10 (v := ?_) rfl (by kernel_rfl) (by kernel_rfl) (by kernel_rfl) (fun _ _ _ h => h) (by rfl) ?_ (by assumption) ?_; rotate_left; (intro _w; go_simp; try with_reducible rfl); simp only [Act.put, List.setIfInBounds_toArray, List.set_cons_zero, List.set_cons_succ])
              (refine wpD_plain 11 (v := ?_) rfl (by kernel_rfl) (by kernel_rfl) (by kernel_rfl) (fun _ _ _ h => h) (by rfl) ?_ (by assumption) ?_; rotate_left; (intro _w; go_simp; try with_reducible rfl); simp only [Act.put, List.setIfInBounds_toArray, List.set_cons_zero, List.set_cons_succ])
              refine wpD_only 12 [] rfl (by kernel_rfl) (by kernel_rfl) (by rfl) (fun KS hKS => ?_)
              refine wp_put _ _ _ rfl b3 (n * 4 + m) (fl (keys k) (n * 4 + m)) rfl rfl _ _ 176 HR.out.2.2.1.drew (by omega) info1 ?_
              clear hx
              intro w5 HB5 HF5 HS5
              refine hKS _ _ (Facts.nil_hold _) ?_
              clear hKS KS
              simp only [Act.put, List.setIfInBounds_toArray, List.set_cons_zero, List.set_cons_succ]
              refine wpD_done (by kernel_rfl) ?_ _
              have HR' := hid (show Blk w5 b1 27 (b8 k 16) ∧ Blk w5 b2 28 (b8 (fun _ => 0) 176) ∧ Blk w5 b3 39 (b8 (upto (n * 4 + (m + 1)) (fl (keys k)) fun _ => 0) 176) ∧ Fr No w w5 by
                rw [← Nat.add_assoc, ← upto_set]
                exact ⟨HR.out.1.drew.fr HF5.out HN.out.2.1, HR.out.2.1.drew.fr HF5.out HN.out.2.2, HB5.out, HR.out.2.2.2.drew.trans HF5.out fun i e => .inr (by have := HW.out; have : i = b3 := e; omega)⟩)
              clear HR HB5 HF5 HS5 hold
              go_wp2_with fail
              go_roundw
              case rel => exact ⟨m + 1, by omega, by go_num, HR'⟩
              case measure => simp [intOf]; omega
        · obtain rfl : m = 4 := by omega
          have hr := HR.out
          rw [show n * 4 + 4 = (n + 1) * 4 by omega] at hr
          have HR' := hid hr
          clear HR hr
          have hcn := con_next n
          by_cases h4 : 4 ≤ n ∧ n % 4 = 0
          · rw [if_pos h4, HC.out] at hcn
            have HCN := hid hcn
            clear hcn
            obtain ⟨h4a, h4b⟩ := h4
            have h4i : ((n : Int) % 4 == 0) = true := by rw [beq_iff_eq]; omega
            go_wp2_with fail
            refine (rtimes_any c 2 _ HCL.out (by decide)).mono ?_
            rintro e w' ⟨rfl, rfl⟩
            go_wp2_with fail
            go_roundw
            case rel => exact ⟨n + 1, by omega, by go_num, by rw [HCN.out], HR'⟩
            case measure => simp [intOf]; omega
          · rw [if_neg h4, HC.out] at hcn
            have HCN := hid hcn
            clear hcn
            by_cases h4a : 4 ≤ n
            · have h4i : ((n : Int) % 4 == 0) = false := by rw [beq_eq_false_iff_ne]; omega
              go_wp2_with fail
              go_roundw
              case rel => exact ⟨n + 1, by omega, by go_num, by rw [HCN.out], HR'⟩
              case measure => simp [intOf]; omega
            · go_wp2_with fail
              go_roundw
              case rel => exact ⟨n + 1, by omega, by go_num, by rw [HCN.out], HR'⟩
              case measure => simp [intOf]; omega
    · obtain rfl : n = 44 := by omega
      have hup : b8 (upto (44 * 4) (fl (keys k)) fun _ => 0) 176 = b8 (fl (keys k)) 176 := upto_all _ _ 176
      have hr := HR.out
      rw [hup] at hr
      clear HR hup
      go_wp2_with (first
        | ((with_reducible show wpList _ _ _ ({ dst := _, op := .alloc 28, type := _, pos := _, after := _, guard := _ } :: _) _ _); refine wpL_alloc rfl _ rfl _ zero176 (b8 (fun _ => 0) 176) rfl ?_; intro w4 HB4 HF4 HS4)
        | fail)
      obtain ⟨b4, hb4⟩ : ∃ b, wr.heap.size = b := ⟨_, rfl⟩
      have hB4 := HB4.out
      have hs := hr.2.2.2.size
      have l1 := hr.1.lt; have l2 := hr.2.1.lt; have l3 := hr.2.2.1.lt
      rw [hb4] at hB4 hs l1 l2 l3
      rw [hb4]
      have HW4 := hid hs; have HN4 := hid (show b2 ≠ b4 ∧ b3 ≠ b4 by omega)
      have HR := hid (show Blk w4 b2 28 (b8 (fun _ => 0) 176) ∧ Blk w4 b3 39 (b8 (fl (keys k)) 176) ∧ Blk w4 b4 28 (b8 (upto (0 * 4) (fl (keys k)) fun _ => 0) 176) ∧ Fr No w w4 by
        rw [Nat.zero_mul, upto_zero]
        exact ⟨hr.2.1.fr HF4.out id, hr.2.2.1.fr HF4.out id, hB4, hr.2.2.2.trans' HF4.out⟩)
      clear hr HB4 HF4 HS4 hb4 hB4 hs l1 l2 l3
      go_loopw [9, 10] (fun i _ wr => ∃ n : Nat, n ≤ 44 ∧ i = .int .i64 n ∧ Hid (Blk wr b2 28 (b8 (fun _ => 0) 176) ∧ Blk wr b3 39 (b8 (fl (keys k)) 176) ∧ Blk wr b4 28 (b8 (upto (n * 4) (fl (keys k)) fun _ => 0) 176) ∧ Fr No w wr)) (fun i _ _ => 44 - (intOf i).toNat)
      case atStart => exact ⟨0, by omega, rfl, HR⟩
      case round =>
        clear HR
        obtain ⟨n, hn, rfl, HR⟩ := hrel
        by_cases hlt : n < 44
        · go_wp2_with fail
          rw [show n * 4 = n * 4 + 0 from rfl] at HR
          go_loopw [10] (fun i wr => ∃ m : Nat, m ≤ 4 ∧ i = .int .i64 m ∧ Hid (Blk wr b2 28 (b8 (fun _ => 0) 176) ∧ Blk wr b3 39 (b8 (fl (keys k)) 176) ∧ Blk wr b4 28 (b8 (upto (n * 4 + m) (fl (keys k)) fun _ => 0) 176) ∧ Fr No w wr)) (fun i _ => 4 - (intOf i).toNat)
          case atStart => exact ⟨0, by omega, rfl, HR⟩
          case round =>
            clear HR
            obtain ⟨m, hm, rfl, HR⟩ := hrel
            by_cases hlt2 : m < 4
            · obtain ⟨X, hX⟩ : ∃ X, n / 4 = X := ⟨_, rfl⟩
              obtain ⟨Y, hY⟩ : ∃ Y, n % 4 * 4 + m = Y := ⟨_, rfl⟩
              have hXi : (X : Int) < 11 := by omega
              have hYi : (Y : Int) < 16 := by omega
              have HX := hid hX; have HY := hid hY
              have HXY := hid (show X * 16 + Y = n * 4 + m by omega)
              clear hX hY
              go_wp2_with fail
              have c1 := blk_at HR.out.2.1 (i := n * 4 + m) (by omega)
              have hold : Facts.hold [(11, fun w' => w'.cell? ⟨b3, n * 4 + m, none⟩ = some (.int .u8 (fl (keys k) (n * 4 + m) : Int)))] wr.drew := Facts.cons_hold c1 (Facts.nil_hold _)
              clear c1
              refine wpD_region hold (by kernel_rfl) 15 rfl ?_
              (refine wpD_plain 0 (v := ?_) rfl (by kernel_rfl) (by kernel_rfl) (by kernel_rfl) (fun _ _ _ h => h) (by rfl) ?_ (by assumption) ?_; rotate_left; (intro _w; go_simp; try with_reducible rfl); simp only [Act.put, List.setIfInBounds_toArray, List.set_cons_zero, List.set_cons_succ])
              (refine wpD_plain 1 (v := (.int .i64 (X : Int))) rfl (by kernel_rfl) (by kernel_rfl) (by kernel_rfl) (fun _ _ _ h => h) (by rfl) ?_ (by assumption) ?_; (intro _w; go_simp; (have := HX.out; rw [IntKind.wrap_i64]; omega)); simp only [Act.put, List.setIfInBounds_toArray, List.set_cons_zero, List.set_cons_succ])
              (refine wpD_plain 2 (v := ?_) rfl (by kernel_rfl) (by kernel_rfl) (by kernel_rfl) (fun _ _ _ h => h) (by rfl) ?_ (by assumption) ?_; rotate_left; (intro _w; go_simp; try with_reducible rfl); simp only [Act.put, List.setIfInBounds_toArray, List.set_cons_zero, List.set_cons_succ])
              (refine wpD_plain 3 (v := (.int .i64 ((n % 4 : Nat) : Int))) rfl (by kernel_rfl) (by kernel_rfl) (by kernel_rfl) (fun _ _ _ h => h) (by rfl) ?_ (by assumption) ?_; (intro _w; go_simp; (rw [Int.tmod_eq_emod_of_nonneg (by omega)])); simp only [Act.put, List.setIfInBounds_toArray, List.set_cons_zero, List.set_cons_succ])
              (refine wpD_plain 4 (v := (.int .i64 ((n % 4 * 4 : Nat) : Int))) rfl (by kernel_rfl) (by kernel_rfl) (by kernel_rfl) (fun _ _ _ h => h) (by rfl) ?_ (by assumption) ?_; (intro _w; go_simp; (rw [IntKind.wrap_i64]; omega)); simp only [Act.put, List.setIfInBounds_toArray, List.set_cons_zero, List.set_cons_succ])
              (refine wpD_plain 5 (v := ?_) rfl (by kernel_rfl) (by kernel_rfl) (by kernel_rfl) (fun _ _ _ h => h) (by rfl) ?_ (by assumption) ?_; rotate_left; (intro _w; go_simp; try with_reducible rfl); simp only [Act.put, List.setIfInBounds_toArray, List.set_cons_zero, List.set_cons_succ])
              (refine wpD_plain 6 (v := (.int .i64 (Y : Int))) rfl (by kernel_rfl) (by kernel_rfl) (by kernel_rfl) (fun _ _ _ h => h) (by rfl) ?_ (by assumption) ?_; (intro _w; go_simp; (have := HY.out; rw [IntKind.wrap_i64]; omega)); simp only [Act.put, List.setIfInBounds_toArray, List.set_cons_zero, List.set_cons_succ])
              (refine wpD_plain 7 (v := ?_) rfl (by kernel_rfl) (by kernel_rfl) (by kernel_rfl) (fun _ _ _ h => h) (by rfl) ?_ (by assumption) ?_; rotate_left; (intro _w; go_simp; try with_reducible rfl); simp only [Act.put, List.setIfInBounds_toArray, List.set_cons_zero, List.set_cons_succ])
              (refine wpD_plain 8 (v := ?_) rfl (by kernel_rfl) (by kernel_rfl) (by kernel_rfl) (fun _ _ _ h => h) (by rfl) ?_ (by assumption) ?_; rotate_left; (intro _w; go_simp; try with_reducible rfl); simp only [Act.put, List.setIfInBounds_toArray, List.set_cons_zero, List.set_cons_succ])
              (refine wpD_plain 9 (v := ?_) rfl (by kernel_rfl) (by kernel_rfl) (by kernel_rfl) (fun _ _ _ h => h) (by rfl) ?_ (by assumption) ?_; rotate_left; (intro _w; go_simp; try with_reducible rfl); simp only [Act.put, List.setIfInBounds_toArray, List.set_cons_zero, List.set_cons_succ])
              (refine wpD_plain 10 (v := ?_) rfl (by kernel_rfl) (by kernel_rfl) (by kernel_rfl) (fun _ _ _ h => h) (by rfl) ?_ (by assumption) ?_; rotate_left; (intro _w; go_simp; try with_reducible rfl); simp only [Act.put, List.setIfInBounds_toArray, List.set_cons_zero, List.set_cons_succ])
              (refine wpD_take 11 _ rfl (by kernel_rfl) (by kernel_rfl) (by kernel_rfl) (fun _ _ _ h => h) List.mem_cons_self (by rfl) (v := ?_) ?_ (by assumption) ?_; rotate_left; (intro _w _hw; go_simp; try with_reducible rfl); simp only [Act.put, List.setIfInBounds_toArray, List.set_cons_zero, List.set_cons_succ])
              (refine wpD_plain 12 (v := ?_) rfl (by kernel_rfl) (by kernel_rfl) (by kernel_rfl) (fun _ _ _ h => h) (by rfl) ?_ (by assumption) ?_; rotate_left; (intro _w; go_simp; try with_reducible rfl); simp only [Act.put, List.setIfInBounds_toArray, List.set_cons_zero, List.set_cons_succ])
              (refine wpD_plain 13 (v := ?_) rfl (by kernel_rfl) (by kernel_rfl) (by kernel_rfl) (fun _ _ _ h => h) (by rfl) ?_ (by assumption) ?_; rotate_left; (intro _w; go_simp; try with_reducible rfl); simp only [Act.put, List.setIfInBounds_toArray, List.set_cons_zero, List.set_cons_succ])
              refine wpD_only 14 [] rfl (by kernel_rfl) (by kernel_rfl) (by rfl) (fun KS hKS => ?_)
              refine wp_put _ _ _ rfl b4 (X * 16 + Y) (fl (keys k) (n * 4 + m)) rfl rfl _ _ 176 HR.out.2.2.1.drew (by have := HXY.out; omega) info1 ?_
              rw [HXY.out]
              intro w5 HB5 HF5 HS5
              refine hKS _ _ (Facts.nil_hold _) ?_
              clear hKS KS
              simp only [Act.put, List.setIfInBounds_toArray, List.set_cons_zero, List.set_cons_succ]
              refine wpD_done (by kernel_rfl) ?_ _
              have HR' := hid (show Blk w5 b2 28 (b8 (fun _ => 0) 176) ∧ Blk w5 b3 39 (b8 (fl (keys k)) 176) ∧ Blk w5 b4 28 (b8 (upto (n * 4 + (m + 1)) (fl (keys k)) fun _ => 0) 176) ∧ Fr No w w5 by
                rw [← Nat.add_assoc, ← upto_set]
                exact ⟨HR.out.1.drew.fr HF5.out HN4.out.1, HR.out.2.1.drew.fr HF5.out HN4.out.2, HB5.out, HR.out.2.2.2.drew.trans HF5.out fun i e => .inr (by have := HW4.out; have : i = b4 := e; omega)⟩)
              clear HR HB5 HF5 HS5 hold
              go_wp2_with fail
              go_roundw
              case rel => exact ⟨m + 1, by omega, by go_num, HR'⟩
              case measure => simp [intOf]; omega
            · obtain rfl : m = 4 := by omega
              have hr := HR.out
              rw [show n * 4 + 4 = (n + 1) * 4 by omega] at hr
              have HR' := hid hr
              clear HR hr
              go_wp2_with fail
              go_roundw
              case rel => exact ⟨n + 1, by omega, by go_num, HR'⟩
              case measure => simp [intOf]; omega
        · obtain rfl : n = 44 := by omega
          have hup : b8 (upto (44 * 4) (fl (keys k)) fun _ => 0) 176 = b8 (fl (keys k)) 176 := upto_all _ _ 176
          have hr := HR.out
          rw [hup] at hr
          clear HR hup
          have HR := hid hr
          clear hr
          go_wp2_with (first
            | ((with_reducible show wpList _ _ _ ({ dst := _, op := .load 28 _, type := _, pos := _, after := _, guard := _ } :: _) _ _); refine wpL_all rfl _ _ rfl b4 rfl _ (fl (keys k)) 176 _ HR.out.2.2.1 rfl rfl info176 ?_)
            | ((with_reducible show wpList _ _ _ ({ dst := _, op := .store 28 _ _, type := _, pos := _, after := _, guard := _ } :: _) _ _); refine wpL_whole rfl _ _ _ rfl b2 (fl (keys k)) 176 rfl rfl _ _ HR.out.1 info176 ?_; intro w5 HB5 HF5 HS5)
            | fail)
          refine ret_cell rfl _ rfl HB5.out rfl rfl (by simpa using info176) rfl ?_
          exact ⟨rfl, HR.out.2.2.2.trans HF5.out fun i e => .inr (by have := HW.out; have : i = b2 := e; omega)⟩
end Go.Proofs.Ytgbcddhgeepjgaa.AE
