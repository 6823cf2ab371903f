/-
  The program's sha: a block's words.
-/
import Derived.Test.YtejbanlhgnlliaaDoorShaG
namespace Go.Proofs.YtejbanlhgnlliaaDoor.SH
set_option maxRecDepth 100000
open Go.RowKit K AR

theorem upto_w' (m : Nat → Nat) (j : Nat) : AR.upd (upto (16 + j) (wS m j) fun _ => 0) (16 + j) (wS m (j + 1) (j + 16)) = upto (16 + (j + 1)) (wS m (j + 1)) fun _ => 0 := by
  funext i
  unfold AR.upd AR.upto
  by_cases h : i = 16 + j
  · subst h; rw [if_pos rfl, if_pos (by omega), show j + 16 = 16 + j by omega]
  · rw [if_neg h]
    by_cases h2 : i < 16 + j
    · rw [if_pos h2, if_pos (by omega), wS_low m j (by omega)]
    · rw [if_neg h2, if_neg (by omega)]
/-- The bytes of a block, put together k at a time. -/
def pw (B : Nat → Nat) (j : Nat) : Nat → Nat
  | 0 => 0
  | k + 1 => pw B j k * 256 + B (4 * j + k)
def ps (B : Nat → Nat) (i : Nat) : Nat → Nat := fun j => pw B j (min (i - 4 * j) 4)
def mB (B : Nat → Nat) : Nat → Nat := fun j => B (4 * j) * 16777216 + B (4 * j + 1) * 65536 + B (4 * j + 2) * 256 + B (4 * j + 3)
def B8 (B : Nat → Nat) : Prop := ∀ i, B i < 256
theorem pw_four (B : Nat → Nat) (j : Nat) : pw B j 4 = mB B j := by
  simp only [pw, mB]
  simp only [Nat.add_zero]
  omega
theorem mB_lt {B : Nat → Nat} (h : B8 B) : B32 (mB B) := fun j => by
  unfold mB
  have := h (4 * j); have := h (4 * j + 1); have := h (4 * j + 2); have := h (4 * j + 3)
  omega
theorem pw_lt {B : Nat → Nat} (h : B8 B) (j : Nat) {k : Nat} (hk : k < 4) : pw B j k < 16777216 := by
  have h0 := h (4 * j); have h1 := h (4 * j + 1); have h2 := h (4 * j + 2)
  have : k = 0 ∨ k = 1 ∨ k = 2 ∨ k = 3 := by omega
  rcases this with rfl | rfl | rfl | rfl <;> simp only [pw, Nat.add_zero] <;> omega
theorem ps_zero (B : Nat → Nat) : ps B 0 = fun _ => 0 := by
  funext j
  unfold ps
  rw [Nat.zero_sub, Nat.zero_min]
  rfl
theorem ps_next (B : Nat → Nat) (i : Nat) : AR.upd (ps B i) (i / 4) (ps B i (i / 4) * 256 + B i) = ps B (i + 1) := by
  funext j
  unfold AR.upd
  by_cases h : j = i / 4
  · rw [if_pos h]
    subst h
    unfold ps
    rw [show min (i - 4 * (i / 4)) 4 = i % 4 by omega, show min (i + 1 - 4 * (i / 4)) 4 = i % 4 + 1 by omega]
    show _ = pw B (i / 4) (i % 4) * 256 + B (4 * (i / 4) + i % 4)
    rw [show 4 * (i / 4) + i % 4 = i by omega]
  · rw [if_neg h]
    unfold ps
    congr 1
    omega
theorem ps_lt {B : Nat → Nat} (h : B8 B) (i : Nat) : ps B i (i / 4) < 16777216 := by
  unfold ps
  rw [show min (i - 4 * (i / 4)) 4 = i % 4 by omega]
  exact pw_lt h _ (by omega)
theorem ps_all (B : Nat → Nat) : bw .u32 (ps B 64) 64 = bw .u32 (upto (16 + 0) (wS (mB B) 0) fun _ => 0) 64 := bw_congr fun j hj => by
  unfold ps AR.upto
  by_cases h : j < 16
  · rw [if_pos h, show min (64 - 4 * j) 4 = 4 by omega, pw_four]
    rfl
  · rw [if_neg h, show min (64 - 4 * j) 4 = 0 by omega]
    rfl
theorem or_byte {x c : Nat} (hx : x < 16777216) (hc : c < 256) : bits .or .u32 ((x : Int) * 256 % 4294967296) ((c : Int) % 4294967296) = ((x * 256 + c : Nat) : Int) := by
  have e : ((x : Int) * 256 % 4294967296) = ((x * 256 : Nat) : Int) := by omega
  have e2 : ((c : Int) % 4294967296) = (c : Int) := by omega
  rw [e, e2, or32 (by omega) (by omega)]
  congr 1
  rw [Nat.mul_comm x 256]
  exact (Nat.two_pow_add_eq_or_of_lt (i := 8) hc x).symm
set_option maxHeartbeats 4000000 in
theorem schedule_any (B : Nat → Nat) (hB : B8 B) (g o c : Nat) (w : World) (hs : ∀ i, i < 64 → w.cell? ⟨g, o + i, none⟩ = some (.int .u8 (B i : Int))) : Calls Tryd.prog 28 #[.slice (some ⟨g, o, none⟩) 64 c] w fun e w' =>
    e = .returned (ba .u32 (wS (mB B) 48) 64) ∧ Fr No w w' := by
  have hs0 := hs 0 (by decide)
  have hgw : g < w.heap.size := World.block_lt_of_cell? w _ hs0
  have HS := hid hs
  clear hs hs0
  go_enter Tryd.func28, Tryd.ntmps28
  go_wp2_with (first
    | ((with_reducible show wpList _ _ _ ({ dst := _, op := .alloc 43, type := _, pos := _, after := _, guard := _ } :: _) _ _); have := HB1; refine wpL_alloc rfl _ rfl _ zero64w (bw .u32 (fun _ => 0) 64) rfl ?_; intro w2 HB2 HF2 HS2)
    | ((with_reducible show wpList _ _ _ ({ dst := _, op := .alloc 43, type := _, pos := _, after := _, guard := _ } :: _) _ _); refine wpL_alloc rfl _ rfl _ zero64w (bw .u32 (fun _ => 0) 64) rfl ?_; intro w1 HB1 HF1 HS1)
    | fail)
  obtain ⟨b2, hb2⟩ : ∃ b, w.heap.size = b := ⟨_, rfl⟩
  obtain ⟨b3, hb3⟩ : ∃ b, w1.heap.size = b := ⟨_, rfl⟩
  have hlt23 : b2 < b3 := by have := HS1.out; omega
  have HR := hid (show Blk w2 b2 43 (bw .u32 (fun _ => 0) 64) ∧ (∀ i, i < 64 → w2.cell? ⟨g, o + i, none⟩ = some (.int .u8 (B i : Int))) ∧ Blk w2 b3 43 (bw .u32 (ps B 0) 64) ∧ Fr No w w2 by
    rw [ps_zero, ← hb2, ← hb3]
    exact ⟨HB1.out.fr HF2.out id, fun i hi => HF2.out.cell (HF1.out.cell (HS.out i hi) id) id, HB2.out, HF1.out.trans' HF2.out⟩)
  have HN := hid (show w.heap.size = b2 ∧ g < b2 ∧ b2 < b3 from ⟨hb2, by omega, hlt23⟩)
  rw [hb2, hb3]
  clear HB1 HF1 HS1 HB2 HF2 HS2 hb2 hb3 hlt23 hgw HS this
  go_wp2_with fail
  go_loopw [11] (fun i wr => ∃ j : Nat, j ≤ 64 ∧ i = .int .i64 j ∧ Hid (Blk wr b2 43 (bw .u32 (fun _ => 0) 64) ∧ (∀ i, i < 64 → wr.cell? ⟨g, o + i, none⟩ = some (.int .u8 (B i : Int))) ∧ Blk wr b3 43 (bw .u32 (ps B j) 64) ∧ Fr No w wr)) (fun i _ => 64 - (intOf i).toNat)
  case atStart => exact ⟨0, by omega, rfl, HR⟩
  case round =>
    clear HR
    obtain ⟨j, hj, rfl, HR⟩ := hrel
    by_cases hlt : j < 64
    · have c1 := HR.out.2.1 j hlt
      have c2 := blk_at HR.out.2.2.1 (i := j / 4) (by omega)
      have ho := or_byte (ps_lt hB j) (hB j)
      have hn := ps_next B j
      obtain ⟨x, hx⟩ : ∃ x, ps B j (j / 4) = x := ⟨_, rfl⟩
      obtain ⟨y, hy⟩ : ∃ y, B j = y := ⟨_, rfl⟩
      rw [hy] at c1 ho hn
      rw [hx] at c2 ho hn
      have HO := hid ho; have HNX := hid hn
      obtain ⟨q, hq⟩ : ∃ q, j / 4 = q := ⟨_, rfl⟩
      have hq2 : (j : Int) / 4 = (q : Int) := by omega
      have hq3 : (q : Int) < 64 := by omega
      rw [hq] at c2
      have HQ := hid hq
      clear ho hn hx hy hq
      go_wp2_with (first
        | ((with_reducible show wpList _ _ _ ({ dst := _, op := .store 40 _ _, type := _, pos := _, after := _, guard := _ } :: _) _ _); refine wpL_put rfl _ _ _ rfl b3 q (x * 256 + y) rfl (by first | exact congrArg (Value.int .u32) HO.out | rfl) _ _ 64 HR.out.2.2.1 (by omega) infoW ?_; intro w5 HB5 HF5 HS5)
        | fail)
      have HR' := hid (show Blk w5 b2 43 (bw .u32 (fun _ => 0) 64) ∧ (∀ i, i < 64 → w5.cell? ⟨g, o + i, none⟩ = some (.int .u8 (B i : Int))) ∧ Blk w5 b3 43 (bw .u32 (ps B (j + 1)) 64) ∧ Fr No w w5 by
        have hn := HN.out
        have h5 := HB5.out
        rw [← HQ.out, HNX.out] at h5
        exact ⟨HR.out.1.fr HF5.out (by omega), fun i hi => HF5.out.cell (HR.out.2.1 i hi) (fun e => by have : g = b3 := e; omega), h5, HR.out.2.2.2.trans HF5.out fun i e => .inr (by have : i = b3 := e; omega)⟩)
      clear HR HB5 HF5 HS5 c1 c2
      go_wp2_with fail
      go_roundw
      case rel => exact ⟨j + 1, by omega, by go_num, HR'⟩
      case measure => simp [intOf]; omega
    · obtain rfl : j = 64 := by omega
      have hr := HR.out
      rw [ps_all] at hr
      have HR2 := hid hr
      clear HR hr hlt hj
      go_wp2_with fail
      go_loopw [6] (fun i wr => ∃ j : Nat, j ≤ 48 ∧ i = .int .i64 (16 + j : Nat) ∧ Hid (Blk wr b2 43 (bw .u32 (fun _ => 0) 64) ∧ Blk wr b3 43 (bw .u32 (upto (16 + j) (wS (mB B) j) fun _ => 0) 64) ∧ Fr No w wr)) (fun i _ => 64 - (intOf i).toNat)
      case atStart => exact ⟨0, by omega, rfl, hid ⟨HR2.out.1, HR2.out.2.2.1, HR2.out.2.2.2⟩⟩
      case round =>
        clear HR2
        obtain ⟨j, hj, rfl, HR⟩ := hrel
        by_cases hlt3 : j < 48
        · as_aux_lemma =>
          obtain ⟨I, hI⟩ : ∃ I, 16 + j = I := ⟨_, rfl⟩
          have hIi : (I : Int) < 64 := by omega
          have hI16 : (16 : Int) ≤ (I : Int) := by omega
          have HI := hid hI
          have up : ∀ x, x < 16 + j → upto (16 + j) (wS (mB B) j) (fun _ => 0) x = wS (mB B) j x := fun x hx => by unfold AR.upto; rw [if_pos hx]
          have c0 := blk_at HR.out.2.1 (i := j) (by omega)
          have c1 := blk_at HR.out.2.1 (i := j + 9) (by omega)
          have c2 := blk_at HR.out.2.1 (i := j + 1) (by omega)
          have c3 := blk_at HR.out.2.1 (i := j + 14) (by omega)
          rw [up _ (by omega)] at c0 c1 c2 c3
          have hnew := wS_new (mB B) j
          have HXa := hid (wS_lt (mB_lt hB) j j); have HXb := hid (wS_lt (mB_lt hB) j (j + 9)); have HXp := hid (wS_lt (mB_lt hB) j (j + 1)); have HXq := hid (wS_lt (mB_lt hB) j (j + 14))
          obtain ⟨wa, ea⟩ : ∃ x, wS (mB B) j j = x := ⟨_, rfl⟩
          obtain ⟨wb, eb⟩ : ∃ x, wS (mB B) j (j + 9) = x := ⟨_, rfl⟩
          obtain ⟨wp, ep⟩ : ∃ x, wS (mB B) j (j + 1) = x := ⟨_, rfl⟩
          obtain ⟨wq, eq⟩ : ∃ x, wS (mB B) j (j + 14) = x := ⟨_, rfl⟩
          rw [ea] at c0 HXa hnew; rw [eb] at c1 HXb hnew; rw [ep] at c2 HXp hnew; rw [eq] at c3 HXq hnew
          have d2 : wr.cell? ⟨b3, I - 15, none⟩ = some (.int .u32 (wp : Int)) := by rw [show I - 15 = j + 1 by omega]; exact c2
          have d3 : wr.cell? ⟨b3, I - 2, none⟩ = some (.int .u32 (wq : Int)) := by rw [show I - 2 = j + 14 by omega]; exact c3
          rw [hI]
          obtain ⟨J9, hJ9⟩ : ∃ x, j + 9 = x := ⟨_, rfl⟩
          rw [hJ9] at c1
          have HJ9 := hid hJ9
          have hji : (j : Int) < 64 := by omega
          have hJ9i : (J9 : Int) < 64 := by omega
          have lp7 := R_lt (n := 7) HXp.out; have lp18 := R_lt (n := 18) HXp.out; have lq17 := R_lt (n := 17) HXq.out; have lq19 := R_lt (n := 19) HXq.out
          have lp8 : wp / 8 < 4294967296 := Nat.lt_of_le_of_lt (Nat.div_le_self _ _) HXp.out
          have lq8 : wq / 1024 < 4294967296 := Nat.lt_of_le_of_lt (Nat.div_le_self _ _) HXq.out
          have hg0 : g0 wp = R 7 wp ^^^ R 18 wp ^^^ wp / 8 := rfl
          have hg1 : g1 wq = R 17 wq ^^^ R 19 wq ^^^ wq / 1024 := rfl
          obtain ⟨r7, hr7⟩ : ∃ x, R 7 wp = x := ⟨_, rfl⟩
          obtain ⟨r18, hr18⟩ : ∃ x, R 18 wp = x := ⟨_, rfl⟩
          obtain ⟨r17, hr17⟩ : ∃ x, R 17 wq = x := ⟨_, rfl⟩
          obtain ⟨r19, hr19⟩ : ∃ x, R 19 wq = x := ⟨_, rfl⟩
          obtain ⟨p8, hp8⟩ : ∃ x, wp / 8 = x := ⟨_, rfl⟩
          obtain ⟨q8, hq8⟩ : ∃ x, wq / 1024 = x := ⟨_, rfl⟩
          rw [hr7] at lp7 hg0; rw [hr18] at lp18 hg0; rw [hr17] at lq17 hg1; rw [hr19] at lq19 hg1; rw [hp8] at lp8 hg0; rw [hq8] at lq8 hg1
          have x1 := xor32 lp7 lp18
          have x2 := xor32 (xor_lt lp7 lp18) lp8
          have x3 := xor32 lq17 lq19
          have x4 := xor32 (xor_lt lq17 lq19) lq8
          rw [← hg0] at x2; rw [← hg1] at x4
          have lg0 : g0 wp < 4294967296 := by rw [hg0]; exact xor_lt (xor_lt lp7 lp18) lp8
          have lg1 : g1 wq < 4294967296 := by rw [hg1]; exact xor_lt (xor_lt lq17 lq19) lq8
          obtain ⟨y1, hy1⟩ : ∃ x, r7 ^^^ r18 = x := ⟨_, rfl⟩
          obtain ⟨y3, hy3⟩ : ∃ x, r17 ^^^ r19 = x := ⟨_, rfl⟩
          rw [hy1] at x1 x2; rw [hy3] at x3 x4
          obtain ⟨G0, hG0⟩ : ∃ x, g0 wp = x := ⟨_, rfl⟩
          obtain ⟨G1, hG1⟩ : ∃ x, g1 wq = x := ⟨_, rfl⟩
          rw [hG0] at x2 lg0 hnew; rw [hG1] at x4 lg1 hnew
          obtain ⟨V, hV⟩ : ∃ x, wS (mB B) (j + 1) (j + 16) = x := ⟨_, rfl⟩
          rw [hV] at hnew
          have HV := hid hV
          have HNW := hid hnew
          have HR7 := hid hr7; have HR18 := hid hr18; have HR17 := hid hr17; have HR19 := hid hr19; have HP8 := hid hp8; have HQ8 := hid hq8
          have HLG := hid (And.intro lg0 lg1)
          clear up ea eb ep eq hnew hI c2 c3 hJ9 hV hr7 hr18 hr17 hr19 hp8 hq8 lp7 lp18 lq17 lq19 lp8 lq8 hg0 hg1 hy1 hy3 hG0 hG1 lg0 lg1
          go_wp2_with fail
          go_quiet (fail)
          go_wp2_with fail
          generalize hw1 : wr.drewN _ = w1
          have HR1 := hid (show Blk w1 b2 43 (bw .u32 (fun _ => 0) 64) ∧ Blk w1 b3 43 (bw .u32 (upto (16 + j) (wS (mB B) j) fun _ => 0) 64) ∧ Fr No w w1 by
            rw [← hw1]
            exact ⟨HR.out.1, HR.out.2.1, HR.out.2.2.drewN _⟩)
          replace c0 : w1.cell? ⟨b3, j, none⟩ = some (.int .u32 (wa : Int)) := by rw [← hw1]; exact c0
          replace c1 : w1.cell? ⟨b3, J9, none⟩ = some (.int .u32 (wb : Int)) := by rw [← hw1]; exact c1
          clear HR hw1
          have hold : Facts.hold [(4, fun w' => w'.cell? ⟨b3, j, none⟩ = some (.int .u32 (wa : Int))), (8, fun w' => w'.cell? ⟨b3, J9, none⟩ = some (.int .u32 (wb : Int)))] w1.drew := (Facts.cons_hold c0 (Facts.cons_hold c1 (Facts.nil_hold _)))
          refine wpD_region hold (by kernel_rfl) 30 rfl ?_
          (refine wpD_plain 0 (v := ?_) rfl (by kernel_rfl) (by kernel_rfl) (by kernel_rfl) (fun _ _ _ h => h) (by rfl) ?_ (by assumption) ?_; rotate_left; (intro _w; go_simp; try with_reducible rfl); simp only [Act.put, List.setIfInBounds_toArray, List.set_cons_zero, List.set_cons_succ])
          (refine wpD_plain 1 (v := ?_) rfl (by kernel_rfl) (by kernel_rfl) (by kernel_rfl) (fun _ _ _ h => h) (by rfl) ?_ (by assumption) ?_; rotate_left; (intro _w; go_simp; try with_reducible rfl); simp only [Act.put, List.setIfInBounds_toArray, List.set_cons_zero, List.set_cons_succ])
          (refine wpD_plain 2 (v := (.int .i64 (j : Int))) rfl (by kernel_rfl) (by kernel_rfl) (by kernel_rfl) (fun _ _ _ h => h) (by rfl) ?_ (by assumption) ?_; (intro _w; go_simp; (have := HI.out; rw [IntKind.wrap_i64]; omega)); simp only [Act.put, List.setIfInBounds_toArray, List.set_cons_zero, List.set_cons_succ])
          (refine wpD_plain 3 (v := ?_) rfl (by kernel_rfl) (by kernel_rfl) (by kernel_rfl) (fun _ _ _ h => h) (by rfl) ?_ (by assumption) ?_; rotate_left; (intro _w; go_simp; try with_reducible rfl); simp only [Act.put, List.setIfInBounds_toArray, List.set_cons_zero, List.set_cons_succ])
          (refine wpD_take 4 _ rfl (by kernel_rfl) (by kernel_rfl) (by kernel_rfl) (fun _ _ _ h => h) List.mem_cons_self (by rfl) (v := ?_) ?_ (by assumption) ?_; rotate_left; (intro _w _hw; go_simp; try with_reducible rfl); simp only [Act.put, List.setIfInBounds_toArray, List.set_cons_zero, List.set_cons_succ])
          (refine wpD_plain 5 (v := ?_) rfl (by kernel_rfl) (by kernel_rfl) (by kernel_rfl) (fun _ _ _ h => h) (by rfl) ?_ (by assumption) ?_; rotate_left; (intro _w; go_simp; try with_reducible rfl); simp only [Act.put, List.setIfInBounds_toArray, List.set_cons_zero, List.set_cons_succ])
          (refine wpD_plain 6 (v := (.int .i64 (J9 : Int))) rfl (by kernel_rfl) (by kernel_rfl) (by kernel_rfl) (fun _ _ _ h => h) (by rfl) ?_ (by assumption) ?_; (intro _w; go_simp; (have := HI.out; have := HJ9.out; rw [IntKind.wrap_i64]; omega)); simp only [Act.put, List.setIfInBounds_toArray, List.set_cons_zero, List.set_cons_succ])
          (refine wpD_plain 7 (v := ?_) rfl (by kernel_rfl) (by kernel_rfl) (by kernel_rfl) (fun _ _ _ h => h) (by rfl) ?_ (by assumption) ?_; rotate_left; (intro _w; go_simp; try with_reducible rfl); simp only [Act.put, List.setIfInBounds_toArray, List.set_cons_zero, List.set_cons_succ])
          (refine wpD_take 8 _ rfl (by kernel_rfl) (by kernel_rfl) (by kernel_rfl) (fun _ _ _ h => h) (List.mem_cons_of_mem _ List.mem_cons_self) (by rfl) (v := ?_) ?_ (by assumption) ?_; rotate_left; (intro _w _hw; go_simp; try with_reducible rfl); simp only [Act.put, List.setIfInBounds_toArray, List.set_cons_zero, List.set_cons_succ])
          (refine wpD_plain 9 (v := (.int .u32 (((wa + wb) % 4294967296 : Nat) : Int))) rfl (by kernel_rfl) (by kernel_rfl) (by kernel_rfl) (fun _ _ _ h => h) (by rfl) ?_ (by assumption) ?_; (intro _w; go_simp; (first | omega | (rw [IntKind.wrap_u32']; omega) | rfl)); simp only [Act.put, List.setIfInBounds_toArray, List.set_cons_zero, List.set_cons_succ])
          (refine wpD_plain 10 (v := ?_) rfl (by kernel_rfl) (by kernel_rfl) (by kernel_rfl) (fun _ _ _ h => h) (by rfl) ?_ (by assumption) ?_; rotate_left; (intro _w; go_simp; try with_reducible rfl); simp only [Act.put, List.setIfInBounds_toArray, List.set_cons_zero, List.set_cons_succ])
          (refine wpD_plain 12 (v := ?_) rfl (by kernel_rfl) (by kernel_rfl) (by kernel_rfl) (fun _ _ _ h => h) (by rfl) ?_ (by assumption) ?_; rotate_left; (intro _w; go_simp; try with_reducible rfl); simp only [Act.put, List.setIfInBounds_toArray, List.set_cons_zero, List.set_cons_succ])
          (refine wpD_plain 15 (v := ?_) rfl (by kernel_rfl) (by kernel_rfl) (by kernel_rfl) (fun _ _ _ h => h) (by rfl) ?_ (by assumption) ?_; rotate_left; (intro _w; go_simp; try with_reducible rfl); simp only [Act.put, List.setIfInBounds_toArray, List.set_cons_zero, List.set_cons_succ])
          (refine wpD_plain 16 (v := (.int .u32 (p8 : Int))) rfl (by kernel_rfl) (by kernel_rfl) (by kernel_rfl) (fun _ _ _ h => h) (by rfl) ?_ (by assumption) ?_; (intro _w; go_simp; (have := HP8.out; first | omega | (rw [IntKind.wrap_u32']; omega))); simp only [Act.put, List.setIfInBounds_toArray, List.set_cons_zero, List.set_cons_succ])
          (refine wpD_plain 19 (v := ?_) rfl (by kernel_rfl) (by kernel_rfl) (by kernel_rfl) (fun _ _ _ h => h) (by rfl) ?_ (by assumption) ?_; rotate_left; (intro _w; go_simp; try with_reducible rfl); simp only [Act.put, List.setIfInBounds_toArray, List.set_cons_zero, List.set_cons_succ])
          (refine wpD_plain 21 (v := ?_) rfl (by kernel_rfl) (by kernel_rfl) (by kernel_rfl) (fun _ _ _ h => h) (by rfl) ?_ (by assumption) ?_; rotate_left; (intro _w; go_simp; try with_reducible rfl); simp only [Act.put, List.setIfInBounds_toArray, List.set_cons_zero, List.set_cons_succ])
          (refine wpD_plain 24 (v := ?_) rfl (by kernel_rfl) (by kernel_rfl) (by kernel_rfl) (fun _ _ _ h => h) (by rfl) ?_ (by assumption) ?_; rotate_left; (intro _w; go_simp; try with_reducible rfl); simp only [Act.put, List.setIfInBounds_toArray, List.set_cons_zero, List.set_cons_succ])
          (refine wpD_plain 25 (v := (.int .u32 (q8 : Int))) rfl (by kernel_rfl) (by kernel_rfl) (by kernel_rfl) (fun _ _ _ h => h) (by rfl) ?_ (by assumption) ?_; (intro _w; go_simp; (have := HQ8.out; first | omega | (rw [IntKind.wrap_u32']; omega))); simp only [Act.put, List.setIfInBounds_toArray, List.set_cons_zero, List.set_cons_succ])
          refine wpD_only 11 [(4, fun w' => w'.cell? ⟨b3, j, none⟩ = some (.int .u32 (wa : Int))), (8, fun w' => w'.cell? ⟨b3, J9, none⟩ = some (.int .u32 (wb : Int)))] rfl (by kernel_rfl) (by kernel_rfl) (by rfl) (fun K11 hK11 => ?_)
          refine wp_call _ [_, _] _ rfl _ [] rfl (fun _ _ => by kernel_rfl) [.int .u32 (wp : Int), .int .i64 7] rfl ?_
          refine (right_any wp 7 _ HXp.out (by decide) (by decide)).mono ?_
          rintro e w' ⟨rfl, rfl⟩
          rw [HR7.out]
          refine ⟨_, rfl, hK11 _ _ (Facts.cons_hold c0 (Facts.cons_hold c1 (Facts.nil_hold _))) ?_⟩
          clear hK11 K11
          simp only [Act.put, List.setIfInBounds_toArray, List.set_cons_zero, List.set_cons_succ]
          replace hold : Facts.hold [(4, fun w' => w'.cell? ⟨b3, j, none⟩ = some (.int .u32 (wa : Int))), (8, fun w' => w'.cell? ⟨b3, J9, none⟩ = some (.int .u32 (wb : Int)))] w1.drew := (Facts.cons_hold c0 (Facts.cons_hold c1 (Facts.nil_hold _)))
          refine wpD_only 13 [(4, fun w' => w'.cell? ⟨b3, j, none⟩ = some (.int .u32 (wa : Int))), (8, fun w' => w'.cell? ⟨b3, J9, none⟩ = some (.int .u32 (wb : Int)))] rfl (by kernel_rfl) (by kernel_rfl) (by rfl) (fun K13 hK13 => ?_)
          refine wp_call _ [_, _] _ rfl _ [] rfl (fun _ _ => by kernel_rfl) [.int .u32 (wp : Int), .int .i64 18] rfl ?_
          refine (right_any wp 18 _ HXp.out (by decide) (by decide)).mono ?_
          rintro e w' ⟨rfl, rfl⟩
          rw [HR18.out]
          refine ⟨_, rfl, hK13 _ _ (Facts.cons_hold c0 (Facts.cons_hold c1 (Facts.nil_hold _))) ?_⟩
          clear hK13 K13
          simp only [Act.put, List.setIfInBounds_toArray, List.set_cons_zero, List.set_cons_succ]
          replace hold : Facts.hold [(4, fun w' => w'.cell? ⟨b3, j, none⟩ = some (.int .u32 (wa : Int))), (8, fun w' => w'.cell? ⟨b3, J9, none⟩ = some (.int .u32 (wb : Int)))] w1.drew := (Facts.cons_hold c0 (Facts.cons_hold c1 (Facts.nil_hold _)))
          (refine wpD_plain 14 (v := ?_) rfl (by kernel_rfl) (by kernel_rfl) (by kernel_rfl) (fun _ _ _ h => h) (by rfl) ?_ (by assumption) ?_; rotate_left; (intro _w; go_simp; try with_reducible rfl); simp only [Act.put, List.setIfInBounds_toArray, List.set_cons_zero, List.set_cons_succ])
          (refine wpD_plain 17 (v := ?_) rfl (by kernel_rfl) (by kernel_rfl) (by kernel_rfl) (fun _ _ _ h => h) (by rfl) ?_ (by assumption) ?_; rotate_left; (intro _w; go_simp; try with_reducible rfl); simp only [Act.put, List.setIfInBounds_toArray, List.set_cons_zero, List.set_cons_succ])
          (refine wpD_plain 18 (v := (.int .u32 (((wa + wb + G0) % 4294967296 : Nat) : Int))) rfl (by kernel_rfl) (by kernel_rfl) (by kernel_rfl) (fun _ _ _ h => h) (by rfl) ?_ (by assumption) ?_; (intro _w; go_simp; (first | omega | (rw [IntKind.wrap_u32']; omega) | rfl)); simp only [Act.put, List.setIfInBounds_toArray, List.set_cons_zero, List.set_cons_succ])
          refine wpD_only 20 [(4, fun w' => w'.cell? ⟨b3, j, none⟩ = some (.int .u32 (wa : Int))), (8, fun w' => w'.cell? ⟨b3, J9, none⟩ = some (.int .u32 (wb : Int)))] rfl (by kernel_rfl) (by kernel_rfl) (by rfl) (fun K20 hK20 => ?_)
          refine wp_call _ [_, _] _ rfl _ [] rfl (fun _ _ => by kernel_rfl) [.int .u32 (wq : Int), .int .i64 17] rfl ?_
          refine (right_any wq 17 _ HXq.out (by decide) (by decide)).mono ?_
          rintro e w' ⟨rfl, rfl⟩
          rw [HR17.out]
          refine ⟨_, rfl, hK20 _ _ (Facts.cons_hold c0 (Facts.cons_hold c1 (Facts.nil_hold _))) ?_⟩
          clear hK20 K20
          simp only [Act.put, List.setIfInBounds_toArray, List.set_cons_zero, List.set_cons_succ]
          replace hold : Facts.hold [(4, fun w' => w'.cell? ⟨b3, j, none⟩ = some (.int .u32 (wa : Int))), (8, fun w' => w'.cell? ⟨b3, J9, none⟩ = some (.int .u32 (wb : Int)))] w1.drew := (Facts.cons_hold c0 (Facts.cons_hold c1 (Facts.nil_hold _)))
          refine wpD_only 22 [(4, fun w' => w'.cell? ⟨b3, j, none⟩ = some (.int .u32 (wa : Int))), (8, fun w' => w'.cell? ⟨b3, J9, none⟩ = some (.int .u32 (wb : Int)))] rfl (by kernel_rfl) (by kernel_rfl) (by rfl) (fun K22 hK22 => ?_)
          refine wp_call _ [_, _] _ rfl _ [] rfl (fun _ _ => by kernel_rfl) [.int .u32 (wq : Int), .int .i64 19] rfl ?_
          refine (right_any wq 19 _ HXq.out (by decide) (by decide)).mono ?_
          rintro e w' ⟨rfl, rfl⟩
          rw [HR19.out]
          refine ⟨_, rfl, hK22 _ _ (Facts.cons_hold c0 (Facts.cons_hold c1 (Facts.nil_hold _))) ?_⟩
          clear hK22 K22
          simp only [Act.put, List.setIfInBounds_toArray, List.set_cons_zero, List.set_cons_succ]
          replace hold : Facts.hold [(4, fun w' => w'.cell? ⟨b3, j, none⟩ = some (.int .u32 (wa : Int))), (8, fun w' => w'.cell? ⟨b3, J9, none⟩ = some (.int .u32 (wb : Int)))] w1.drew := (Facts.cons_hold c0 (Facts.cons_hold c1 (Facts.nil_hold _)))
          (refine wpD_plain 23 (v := ?_) rfl (by kernel_rfl) (by kernel_rfl) (by kernel_rfl) (fun _ _ _ h => h) (by rfl) ?_ (by assumption) ?_; rotate_left; (intro _w; go_simp; try with_reducible rfl); simp only [Act.put, List.setIfInBounds_toArray, List.set_cons_zero, List.set_cons_succ])
          (refine wpD_plain 26 (v := ?_) rfl (by kernel_rfl) (by kernel_rfl) (by kernel_rfl) (fun _ _ _ h => h) (by rfl) ?_ (by assumption) ?_; rotate_left; (intro _w; go_simp; try with_reducible rfl); simp only [Act.put, List.setIfInBounds_toArray, List.set_cons_zero, List.set_cons_succ])
          (refine wpD_plain 27 (v := (.int .u32 (V : Int))) rfl (by kernel_rfl) (by kernel_rfl) (by kernel_rfl) (fun _ _ _ h => h) (by rfl) ?_ (by assumption) ?_; (intro _w; go_simp; (have := HNW.out; first | omega | (rw [IntKind.wrap_u32']; omega))); simp only [Act.put, List.setIfInBounds_toArray, List.set_cons_zero, List.set_cons_succ])
          (refine wpD_plain 28 (v := ?_) rfl (by kernel_rfl) (by kernel_rfl) (by kernel_rfl) (fun _ _ _ h => h) (by rfl) ?_ (by assumption) ?_; rotate_left; (intro _w; go_simp; try with_reducible rfl); simp only [Act.put, List.setIfInBounds_toArray, List.set_cons_zero, List.set_cons_succ])
          refine wpD_only 29 [] rfl (by kernel_rfl) (by kernel_rfl) (by rfl) (fun KS hKS => ?_)
          refine wp_put _ _ _ rfl b3 I V rfl rfl _ _ 64 HR1.out.2.1 (by omega) infoW ?_
          intro w5 HB5 HF5 HS5
          refine hKS _ _ (Facts.nil_hold _) ?_
          clear hKS KS
          simp only [Act.put, List.setIfInBounds_toArray, List.set_cons_zero, List.set_cons_succ]
          refine wpD_done (by kernel_rfl) ?_ _
          have hb5 := HB5.out
          rw [← HV.out, ← HI.out, upto_w'] at hb5
          have hf5 := ((Fr.refl (fun k => k = b3) w1).drew).trans' HF5.out
          have HR' := hid (show Blk w5 b2 43 (bw .u32 (fun _ => 0) 64) ∧ Blk w5 b3 43 (bw .u32 (upto (16 + (j + 1)) (wS (mB B) (j + 1)) fun _ => 0) 64) ∧ Fr No w w5 by
            have hn := HN.out
            exact ⟨HR1.out.1.fr hf5 (by omega), hb5, HR1.out.2.2.trans hf5 fun i e => .inr (by have : i = b3 := e; omega)⟩)
          have hI1 : ((I : Int) + 1) = ((16 + (j + 1) : Nat) : Int) := by have := HI.out; omega
          clear HR1 HB5 HF5 HS5 hold hb5 hf5 c0 c1 x1 x2 x3 x4 d2 d3
          go_wp2_with fail
          go_roundw
          case rel => exact ⟨j + 1, by omega, by first | rw [hI1] | rfl, HR'⟩
          case measure => simp [intOf]; omega
        · obtain rfl : j = 48 := by omega
          go_wp2_with (first
            | ((with_reducible show wpList _ _ _ ({ dst := _, op := .load 43 _, type := _, pos := _, after := _, guard := _ } :: _) _ _); refine wpL_all rfl _ _ rfl b3 rfl _ (upto (16 + 48) (wS (mB B) 48) fun _ => 0) 64 _ HR.out.2.1 rfl rfl info64w ?_)
            | ((with_reducible show wpList _ _ _ ({ dst := _, op := .store 43 _ _, type := _, pos := _, after := _, guard := _ } :: _) _ _); refine wpL_whole rfl _ _ _ rfl b2 (upto (16 + 48) (wS (mB B) 48) fun _ => 0) 64 rfl rfl _ _ HR.out.1 info64w ?_; intro w5 HB5 HF5 HS5)
            | fail)
          have hB5 := HB5.out
          rw [show bw .u32 (upto (16 + 48) (wS (mB B) 48) fun _ => 0) 64 = bw .u32 (wS (mB B) 48) 64 from upto_all _ _ 64] at hB5
          refine ret_cell rfl _ rfl hB5 rfl rfl (by simpa using info64w) rfl ?_
          exact ⟨rfl, HR.out.2.2.trans HF5.out fun i e => .inr (by have := HN.out; have : i = b2 := e; omega)⟩
end Go.Proofs.YtejbanlhgnlliaaDoor.SH
