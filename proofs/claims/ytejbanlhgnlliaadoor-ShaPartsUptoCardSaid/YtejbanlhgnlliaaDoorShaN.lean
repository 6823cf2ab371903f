/-
  The program's sha: a block into the state.
-/
import Derived.Test.YtejbanlhgnlliaaDoorShaU
namespace Go.Proofs.YtejbanlhgnlliaaDoor.SH
set_option maxRecDepth 100000
open Go.RowKit K AR

theorem build8 (f : Nat → Nat) (w : World) : (Instr.build 41 #[(0, .int .u32 (f 0 : Int)), (1, .int .u32 (f 1 : Int)), (2, .int .u32 (f 2 : Int)), (3, .int .u32 (f 3 : Int)), (4, .int .u32 (f 4 : Int)), (5, .int .u32 (f 5 : Int)), (6, .int .u32 (f 6 : Int)), (7, .int .u32 (f 7 : Int))]).run Tryd.prog w = .ok (ba .u32 f 8) w := by kernel_rfl
theorem index8 (Z : Nat → Nat) (j : Nat) (hj : j < 8) (W : World) : (Instr.index 41 (.agg (bw .u32 Z 8).toArray) (.int .i64 (j : Int))).run Tryd.prog W = .ok (.int .u32 (Z j : Int)) W := by
  have : j = 0 ∨ j = 1 ∨ j = 2 ∨ j = 3 ∨ j = 4 ∨ j = 5 ∨ j = 6 ∨ j = 7 := by omega
  rcases this with rfl | rfl | rfl | rfl | rfl | rfl | rfl | rfl <;> rfl
theorem flip_nat (n x : Nat) (hx : x < 2 ^ n) : (2 ^ n - 1) ^^^ x = 2 ^ n - (x + 1) := Nat.eq_of_testBit_eq fun i => by
  rw [Nat.testBit_xor, Nat.testBit_two_pow_sub_one, Nat.testBit_two_pow_sub_succ hx]
  by_cases h : i < n
  · simp [h]
  · have : x.testBit i = false := Nat.testBit_lt_two_pow (Nat.lt_of_lt_of_le hx (Nat.pow_le_pow_right (by decide) (by omega)))
    simp [h, this]
theorem not32 {x v : Nat} (hx : x < 4294967296) (hv : 4294967295 - x = v) : bits .xor .u32 (if IntKind.u32.signed = true then -1 else IntKind.u32.max) (x : Int) = (v : Int) := by
  have e : (if IntKind.u32.signed = true then (-1 : Int) else IntKind.u32.max) = ((4294967295 : Nat) : Int) := by decide
  rw [e, xor32 (by decide) hx]
  have := flip_nat 32 x hx
  congr 1
  rw [← hv]
  refine Eq.trans ?_ (this.trans ?_)
  · rfl
  · omega
theorem comp_at (s m : Nat → Nat) (i : Nat) : comp s m i = (s i + rds (wS m 48) s 64 i) % 4294967296 := by rw [comp]
set_option maxHeartbeats 8000000 in
theorem next_any (s : Nat → Nat) (hs : B32 s) (B : Nat → Nat) (hB : B8 B) (g o c : Nat) (w : World) (hb : ∀ i, i < 64 → w.cell? ⟨g, o + i, none⟩ = some (.int .u8 (B i : Int))) (hg : Gl w) :
    Calls Tryd.prog 24 #[ba .u32 s 8, .slice (some ⟨g, o, none⟩) 64 c] w fun e w' => e = .returned (ba .u32 (comp s (mB B)) 8) ∧ Fr No w w' := by
  have HS := hid hs; have HB := hid hb; have HGL := hid hg
  clear hs hb hg
  go_enter Tryd.func24, Tryd.ntmps24
  go_wp2_with (first
    | ((with_reducible show wpList _ _ _ ({ dst := _, op := .box 41 _, type := _, pos := _, after := _, guard := _ } :: _) _ _); refine wpL_box rfl _ _ rfl (ba .u32 s 8) rfl (bw .u32 s 8) rfl ?_; intro w1 HB1 HF1 HS1)
    | ((with_reducible show wpList _ _ _ ({ dst := _, op := .alloc 41, type := _, pos := _, after := _, guard := _ } :: _) _ _); refine wpL_alloc rfl _ rfl _ zero8w (bw .u32 (fun _ => 0) 8) rfl ?_; intro w2 HB2 HF2 HS2)
    | fail)
  have hf2 := HF1.out.trans' HF2.out
  refine (schedule_any B hB g o c _ (fun i hi => hf2.cell (HB.out i hi) id)).mono ?_
  rintro e w3 ⟨rfl, hf3⟩
  obtain ⟨b2, hb2⟩ : ∃ b, w.heap.size = b := ⟨_, rfl⟩
  obtain ⟨b4, hb4⟩ : ∃ b, w1.heap.size = b := ⟨_, rfl⟩
  have HR0 := hid (show Blk w3 b2 41 (bw .u32 s 8) ∧ Blk w3 b4 41 (bw .u32 (fun _ => 0) 8) ∧ Gl w3 ∧ Fr No w w3 from
    ⟨by rw [← hb2]; exact (HB1.out.fr HF2.out id).fr hf3 id, by rw [← hb4]; exact HB2.out.fr hf3 id, HGL.out.no (hf2.trans' hf3), hf2.trans' hf3⟩)
  have HN := hid (show w.heap.size = b2 ∧ b2 < b4 ∧ b4 < w3.heap.size by have := HS1.out; have := HS2.out; have := hf3.size; omega)
  rw [hb2, hb4]
  clear HB1 HF1 HS1 HB2 HF2 HS2 hf2 hf3 hb2 hb4 HGL HB
  go_wp2_with (first
    | ((with_reducible show wpList _ _ _ ({ dst := _, op := .alloc 43, type := _, pos := _, after := _, guard := _ } :: _) _ _); refine wpL_alloc rfl _ rfl _ zero64w (bw .u32 (fun _ => 0) 64) rfl ?_; intro w4 HB4 HF4 HS4)
    | ((with_reducible show wpList _ _ _ ({ dst := _, op := .store 43 _ _, type := _, pos := _, after := _, guard := _ } :: _) _ _); refine wpL_whole rfl _ _ _ rfl w3.heap.size (wS (mB B) 48) 64 rfl rfl _ _ HB4.out info64w ?_; intro w5 HB5 HF5 HS5)
    | fail)
  obtain ⟨b5, hb5⟩ : ∃ b, w3.heap.size = b := ⟨_, rfl⟩
  have hm : Fr No w3 w5 := HF4.out.trans HF5.out fun i e => .inr (by have : i = w3.heap.size := e; omega)
  have hM := wS_lt (mB_lt hB) 48
  have hcp := comp_at s (mB B)
  obtain ⟨M, hMe⟩ : ∃ M, wS (mB B) 48 = M := ⟨_, rfl⟩
  have hB5 := HB5.out
  rw [hMe] at hM hcp hB5
  rw [hb5] at hB5
  have HCP := hid hcp; have HMB := hid hM
  have HR1 := hid (show Blk w5 b2 41 (bw .u32 s 8) ∧ Blk w5 b4 41 (bw .u32 (fun _ => 0) 8) ∧ Blk w5 b5 43 (bw .u32 M 64) ∧ Gl w5 ∧ Fr No w w5 from
    ⟨HR0.out.1.fr hm id, HR0.out.2.1.fr hm id, hB5, HR0.out.2.2.1.no hm, HR0.out.2.2.2.trans' hm⟩)
  have HN5 := hid (show b4 < b5 ∧ b2 < b5 by have := HN.out; omega)
  rw [hb5, hMe]
  clear HR0 HB4 HF4 HS4 HB5 HF5 HS5 hm hb5 hB5 hM hcp hMe
  have k0 := blk_at HR1.out.1 (i := 0) (by decide)
  have k1 := blk_at HR1.out.1 (i := 1) (by decide)
  have k2 := blk_at HR1.out.1 (i := 2) (by decide)
  have k3 := blk_at HR1.out.1 (i := 3) (by decide)
  have k4 := blk_at HR1.out.1 (i := 4) (by decide)
  have k5 := blk_at HR1.out.1 (i := 5) (by decide)
  have k6 := blk_at HR1.out.1 (i := 6) (by decide)
  have k7 := blk_at HR1.out.1 (i := 7) (by decide)
  go_wp2_with fail
  go_quiet (fail)
  go_wp2_with fail
  generalize hw6 : w5.drewN _ = w6
  have k0' : w6.cell? ⟨b2, 4, none⟩ = some (.int .u32 (s 4 : Int)) := by rw [← hw6]; exact k4
  have k1' : w6.cell? ⟨b2, 5, none⟩ = some (.int .u32 (s 5 : Int)) := by rw [← hw6]; exact k5
  have k2' : w6.cell? ⟨b2, 6, none⟩ = some (.int .u32 (s 6 : Int)) := by rw [← hw6]; exact k6
  have k3' : w6.cell? ⟨b2, 7, none⟩ = some (.int .u32 (s 7 : Int)) := by rw [← hw6]; exact k7
  have HR2 := hid (show Blk w6 b2 41 (bw .u32 s 8) ∧ Blk w6 b4 41 (bw .u32 (fun _ => 0) 8) ∧ Blk w6 b5 43 (bw .u32 M 64) ∧ Gl w6 ∧ Fr No w w6 by
    rw [← hw6]
    exact ⟨HR1.out.1, HR1.out.2.1, HR1.out.2.2.1, HR1.out.2.2.2.1, HR1.out.2.2.2.2.drewN _⟩)
  clear hw6 HR1 k0 k1 k2 k3 k4 k5 k6 k7
  go_quiet (fail)
  go_wp2_with fail
  generalize hw7 : w6.drewN _ = w7
  have HR := hid (show Blk w7 b2 41 (bw .u32 s 8) ∧ Blk w7 b4 41 (bw .u32 (fun _ => 0) 8) ∧ Blk w7 b5 43 (bw .u32 M 64) ∧ Gl w7 ∧ Fr No w w7 by
    rw [← hw7]
    exact ⟨HR2.out.1, HR2.out.2.1, HR2.out.2.2.1, HR2.out.2.2.2.1, HR2.out.2.2.2.2.drewN _⟩)
  clear hw7 HR2 k0' k1' k2' k3'
  go_loopw [6, 7, 8, 9, 10, 11, 12, 13, 37] (fun va vb vc vd ve vf vg vh i wr => ∃ j : Nat, j ≤ 64 ∧ va = .int .u32 (rds M s j 0 : Nat) ∧ vb = .int .u32 (rds M s j 1 : Nat) ∧ vc = .int .u32 (rds M s j 2 : Nat) ∧ vd = .int .u32 (rds M s j 3 : Nat) ∧ ve = .int .u32 (rds M s j 4 : Nat) ∧ vf = .int .u32 (rds M s j 5 : Nat) ∧ vg = .int .u32 (rds M s j 6 : Nat) ∧ vh = .int .u32 (rds M s j 7 : Nat) ∧ i = .int .i64 j ∧ Hid (Blk wr b2 41 (bw .u32 s 8) ∧ Blk wr b4 41 (bw .u32 (fun _ => 0) 8) ∧ Blk wr b5 43 (bw .u32 M 64) ∧ Gl wr ∧ Fr No w wr)) (fun _ _ _ _ _ _ _ _ i _ => 64 - (intOf i).toNat)
  case atStart => exact ⟨0, by omega, rfl, rfl, rfl, rfl, rfl, rfl, rfl, rfl, rfl, HR⟩
  case round =>
    clear HR
    obtain ⟨j, hj, rfl, rfl, rfl, rfl, rfl, rfl, rfl, rfl, rfl, HR⟩ := hrel
    by_cases hlt : j < 64
    · as_aux_lemma =>
      obtain ⟨S, hS⟩ : ∃ S, rds M s j = S := ⟨_, rfl⟩
      have HSB := hid (hS ▸ rds_lt M HS.out j : B32 S)
      have HSE := hid hS
      rw [hS]
      clear hS
      have kk := HR.out.2.2.2.1.kc hlt
      have km := blk_at HR.out.2.2.1 (i := j) hlt
      have hX : rx (kc j) (M j) S = (S 7 + e1 (S 4) + ch (S 4) (S 5) (S 6) + kc j + M j) % 4294967296 := rfl
      have hY : ry S = (e0 (S 0) + maj (S 0) (S 1) (S 2)) % 4294967296 := rfl
      have b0 := HSB.out 0; have b1' := HSB.out 1; have b2' := HSB.out 2; have b4' := HSB.out 4; have b5' := HSB.out 5; have b6' := HSB.out 6
      have n6 := R_lt (n := 6) b4'; have n11 := R_lt (n := 11) b4'; have n25 := R_lt (n := 25) b4'
      have n2 := R_lt (n := 2) b0; have n13 := R_lt (n := 13) b0; have n22 := R_lt (n := 22) b0
      have he1 : e1 (S 4) = R 6 (S 4) ^^^ R 11 (S 4) ^^^ R 25 (S 4) := rfl
      have he0 : e0 (S 0) = R 2 (S 0) ^^^ R 13 (S 0) ^^^ R 22 (S 0) := rfl
      have hch : ch (S 4) (S 5) (S 6) = (S 4 &&& S 5) ^^^ ((4294967295 - S 4) &&& S 6) := rfl
      have hmj : maj (S 0) (S 1) (S 2) = (S 0 &&& S 1) ^^^ (S 0 &&& S 2) ^^^ (S 1 &&& S 2) := rfl
      obtain ⟨r6, hr6⟩ : ∃ x, R 6 (S 4) = x := ⟨_, rfl⟩
      obtain ⟨r11, hr11⟩ : ∃ x, R 11 (S 4) = x := ⟨_, rfl⟩
      obtain ⟨r25, hr25⟩ : ∃ x, R 25 (S 4) = x := ⟨_, rfl⟩
      obtain ⟨r2, hr2⟩ : ∃ x, R 2 (S 0) = x := ⟨_, rfl⟩
      obtain ⟨r13, hr13⟩ : ∃ x, R 13 (S 0) = x := ⟨_, rfl⟩
      obtain ⟨r22, hr22⟩ : ∃ x, R 22 (S 0) = x := ⟨_, rfl⟩
      rw [hr6] at n6 he1
      rw [hr11] at n11 he1
      rw [hr25] at n25 he1
      rw [hr2] at n2 he0
      rw [hr13] at n13 he0
      rw [hr22] at n22 he0
      obtain ⟨v4, hv4⟩ : ∃ x, 4294967295 - S 4 = x := ⟨_, rfl⟩
      have bv4 : v4 < 4294967296 := by omega
      rw [hv4] at hch
      have x1 := xor32 n6 n11
      have x2 := xor32 (xor_lt n6 n11) n25
      rw [← he1] at x2
      have x3 := and32 b4' b5'
      have x4 := and32 bv4 b6'
      have x5 := xor32 (and_lt (a := S 4) b5') (and_lt (a := v4) b6')
      rw [← hch] at x5
      have x6 := xor32 n2 n13
      have x7 := xor32 (xor_lt n2 n13) n22
      rw [← he0] at x7
      have x8 := and32 b0 b1'
      have x9 := and32 b0 b2'
      have x10 := xor32 (and_lt (a := S 0) b1') (and_lt (a := S 0) b2')
      have x11 := and32 b1' b2'
      have x12 := xor32 (xor_lt (and_lt (a := S 0) b1') (and_lt (a := S 0) b2')) (and_lt (a := S 1) b2')
      rw [← hmj] at x12
      obtain ⟨y1, hy1e⟩ : ∃ x, r6 ^^^ r11 = x := ⟨_, rfl⟩
      rw [hy1e] at x1 x2
      obtain ⟨y3, hy3e⟩ : ∃ x, S 4 &&& S 5 = x := ⟨_, rfl⟩
      rw [hy3e] at x3 x5
      obtain ⟨y4, hy4e⟩ : ∃ x, v4 &&& S 6 = x := ⟨_, rfl⟩
      rw [hy4e] at x4 x5
      obtain ⟨y6, hy6e⟩ : ∃ x, r2 ^^^ r13 = x := ⟨_, rfl⟩
      rw [hy6e] at x6 x7
      obtain ⟨y10, hy10e⟩ : ∃ x, (S 0 &&& S 1) ^^^ (S 0 &&& S 2) = x := ⟨_, rfl⟩
      rw [hy10e] at x10 x12
      obtain ⟨y8, hy8e⟩ : ∃ x, S 0 &&& S 1 = x := ⟨_, rfl⟩
      rw [hy8e] at x8 x10
      obtain ⟨y9, hy9e⟩ : ∃ x, S 0 &&& S 2 = x := ⟨_, rfl⟩
      rw [hy9e] at x9 x10
      obtain ⟨y11, hy11e⟩ : ∃ x, S 1 &&& S 2 = x := ⟨_, rfl⟩
      rw [hy11e] at x11 x12
      obtain ⟨E1, he1e⟩ : ∃ x, e1 (S 4) = x := ⟨_, rfl⟩
      rw [he1e] at x2 hX
      obtain ⟨E0, he0e⟩ : ∃ x, e0 (S 0) = x := ⟨_, rfl⟩
      rw [he0e] at x7 hY
      obtain ⟨C1, hc1e⟩ : ∃ x, ch (S 4) (S 5) (S 6) = x := ⟨_, rfl⟩
      rw [hc1e] at x5 hX
      obtain ⟨M1, hm1e⟩ : ∃ x, maj (S 0) (S 1) (S 2) = x := ⟨_, rfl⟩
      rw [hm1e] at x12 hY
      obtain ⟨X, hxe⟩ : ∃ x, rx (kc j) (M j) S = x := ⟨_, rfl⟩
      rw [hxe] at hX
      obtain ⟨Y, hye⟩ : ∃ x, ry S = x := ⟨_, rfl⟩
      rw [hye] at hY
      obtain ⟨kv, hkve⟩ : ∃ x, kc j = x := ⟨_, rfl⟩
      rw [hkve] at hX kk
      obtain ⟨mv, hmve⟩ : ∃ x, M j = x := ⟨_, rfl⟩
      rw [hmve] at hX km
      have HR6 := hid hr6; have HR11 := hid hr11; have HR25 := hid hr25; have HR2 := hid hr2; have HR13 := hid hr13; have HR22 := hid hr22; have HV4 := hid hv4; have HX := hid hX; have HY := hid hY; have HXE := hid hxe; have HYE := hid hye; have HS4B := hid b4'; have HS0B := hid b0
      clear hr6 hr11 hr25 hr2 hr13 hr22 hv4 hX hY he1 he0 hch hmj n6 n11 n25 n2 n13 n22 b0 b1' b2' b4' b5' b6' bv4 hy1e hy3e hy4e hy6e hy10e hy8e hy9e hy11e he1e he0e hc1e hm1e hxe hye hkve hmve
      have hj64 : (j : Int) < 64 := by omega

      have q0 : rds M s (j + 1) 0 = (X + Y) % 4294967296 := by show (rx (kc j) (M j) (rds M s j) + ry (rds M s j)) % 4294967296 = _; rw [HSE.out, HXE.out, HYE.out]
      have q4 : rds M s (j + 1) 4 = (S 3 + X) % 4294967296 := by show (rds M s j 3 + rx (kc j) (M j) (rds M s j)) % 4294967296 = _; rw [HSE.out, HXE.out]
      have q1 : rds M s (j + 1) 1 = S 0 := by show rds M s j 0 = _; rw [HSE.out]
      have q2 : rds M s (j + 1) 2 = S 1 := by show rds M s j 1 = _; rw [HSE.out]
      have q3 : rds M s (j + 1) 3 = S 2 := by show rds M s j 2 = _; rw [HSE.out]
      have q5 : rds M s (j + 1) 5 = S 4 := by show rds M s j 4 = _; rw [HSE.out]
      have q6 : rds M s (j + 1) 6 = S 5 := by show rds M s j 5 = _; rw [HSE.out]
      have q7 : rds M s (j + 1) 7 = S 6 := by show rds M s j 6 = _; rw [HSE.out]
      have HQ := hid (show rds M s (j + 1) 0 = (X + Y) % 4294967296 ∧ rds M s (j + 1) 1 = S 0 ∧ rds M s (j + 1) 2 = S 1 ∧ rds M s (j + 1) 3 = S 2 ∧ rds M s (j + 1) 4 = (S 3 + X) % 4294967296 ∧ rds M s (j + 1) 5 = S 4 ∧ rds M s (j + 1) 6 = S 5 ∧ rds M s (j + 1) 7 = S 6 from ⟨q0, q1, q2, q3, q4, q5, q6, q7⟩)
      clear q0 q1 q2 q3 q4 q5 q6 q7
      have b3' := HSB.out 3; have b7' := HSB.out 7; have b5' := HSB.out 5; have b6' := HSB.out 6; have b1' := HSB.out 1; have b2' := HSB.out 2
      clear b1' b2' b3' b5' b6' b7' HSB HSE HXE HYE
      go_wp2_with fail
      have hold : Facts.hold [(21, fun w' => w'.cell? ⟨1, j, none⟩ = some (.int .u32 (kv : Int))), (25, fun w' => w'.cell? ⟨b5, j, none⟩ = some (.int .u32 (mv : Int)))] wr.drew := (Facts.cons_hold kk (Facts.cons_hold km (Facts.nil_hold _)))
      refine wpD_region hold (by kernel_rfl) 28 rfl ?_
      (refine wpD_plain 0 (v := ?_) rfl (by kernel_rfl) (by kernel_rfl) (by kernel_rfl) (fun _ _ _ h => h) (by rfl) ?_ (by assumption) ?_; rotate_left; (intro _w; go_simp; try with_reducible rfl); simp only [Act.put, List.setIfInBounds_toArray, List.set_cons_zero, List.set_cons_succ])
      (refine wpD_plain 1 (v := ?_) rfl (by kernel_rfl) (by kernel_rfl) (by kernel_rfl) (fun _ _ _ h => h) (by rfl) ?_ (by assumption) ?_; rotate_left; (intro _w; go_simp; try with_reducible rfl); simp only [Act.put, List.setIfInBounds_toArray, List.set_cons_zero, List.set_cons_succ])
      (refine wpD_plain 3 (v := ?_) rfl (by kernel_rfl) (by kernel_rfl) (by kernel_rfl) (fun _ _ _ h => h) (by rfl) ?_ (by assumption) ?_; rotate_left; (intro _w; go_simp; try with_reducible rfl); simp only [Act.put, List.setIfInBounds_toArray, List.set_cons_zero, List.set_cons_succ])
      (refine wpD_plain 6 (v := ?_) rfl (by kernel_rfl) (by kernel_rfl) (by kernel_rfl) (fun _ _ _ h => h) (by rfl) ?_ (by assumption) ?_; rotate_left; (intro _w; go_simp; try with_reducible rfl); simp only [Act.put, List.setIfInBounds_toArray, List.set_cons_zero, List.set_cons_succ])
      (refine wpD_plain 10 (v := ?_) rfl (by kernel_rfl) (by kernel_rfl) (by kernel_rfl) (fun _ _ _ h => h) (by rfl) ?_ (by assumption) ?_; rotate_left; (intro _w; go_simp; try with_reducible rfl); simp only [Act.put, List.setIfInBounds_toArray, List.set_cons_zero, List.set_cons_succ])
      (refine wpD_plain 11 (v := ?_) rfl (by kernel_rfl) (by kernel_rfl) (by kernel_rfl) (fun _ _ _ h => h) (by rfl) ?_ (by assumption) ?_; rotate_left; (intro _w; go_simp; try with_reducible rfl); simp only [Act.put, List.setIfInBounds_toArray, List.set_cons_zero, List.set_cons_succ])
      (refine wpD_plain 12 (v := ?_) rfl (by kernel_rfl) (by kernel_rfl) (by kernel_rfl) (fun _ _ _ h => h) (by rfl) ?_ (by assumption) ?_; rotate_left; (intro _w; go_simp; try with_reducible rfl); simp only [Act.put, List.setIfInBounds_toArray, List.set_cons_zero, List.set_cons_succ])
      (refine wpD_plain 13 (v := ?_) rfl (by kernel_rfl) (by kernel_rfl) (by kernel_rfl) (fun _ _ _ h => h) (by rfl) ?_ (by assumption) ?_; rotate_left; (intro _w; go_simp; try with_reducible rfl); simp only [Act.put, List.setIfInBounds_toArray, List.set_cons_zero, List.set_cons_succ])
      (refine wpD_plain 14 (v := (.int .u32 (v4 : Int))) rfl (by kernel_rfl) (by kernel_rfl) (by kernel_rfl) (fun _ _ _ h => h) (by rfl) ?_ (by assumption) ?_; (intro _w; go_simp; (exact not32 HS4B.out HV4.out)); simp only [Act.put, List.setIfInBounds_toArray, List.set_cons_zero, List.set_cons_succ])
      (refine wpD_plain 15 (v := ?_) rfl (by kernel_rfl) (by kernel_rfl) (by kernel_rfl) (fun _ _ _ h => h) (by rfl) ?_ (by assumption) ?_; rotate_left; (intro _w; go_simp; try with_reducible rfl); simp only [Act.put, List.setIfInBounds_toArray, List.set_cons_zero, List.set_cons_succ])
      (refine wpD_plain 16 (v := ?_) rfl (by kernel_rfl) (by kernel_rfl) (by kernel_rfl) (fun _ _ _ h => h) (by rfl) ?_ (by assumption) ?_; rotate_left; (intro _w; go_simp; try with_reducible rfl); simp only [Act.put, List.setIfInBounds_toArray, List.set_cons_zero, List.set_cons_succ])
      (refine wpD_plain 17 (v := ?_) rfl (by kernel_rfl) (by kernel_rfl) (by kernel_rfl) (fun _ _ _ h => h) (by rfl) ?_ (by assumption) ?_; rotate_left; (intro _w; go_simp; try with_reducible rfl); simp only [Act.put, List.setIfInBounds_toArray, List.set_cons_zero, List.set_cons_succ])
      (refine wpD_plain 19 (v := ?_) rfl (by kernel_rfl) (by kernel_rfl) (by kernel_rfl) (fun _ _ _ h => h) (by rfl) ?_ (by assumption) ?_; rotate_left; (intro _w; go_simp; try with_reducible rfl); simp only [Act.put, List.setIfInBounds_toArray, List.set_cons_zero, List.set_cons_succ])
      (refine wpD_plain 20 (v := ?_) rfl (by kernel_rfl) (by kernel_rfl) (by kernel_rfl) (fun _ _ _ h => h) (by rfl) ?_ (by assumption) ?_; rotate_left; (intro _w; go_simp; try with_reducible rfl); simp only [Act.put, List.setIfInBounds_toArray, List.set_cons_zero, List.set_cons_succ])
      (refine wpD_take 21 _ rfl (by kernel_rfl) (by kernel_rfl) (by kernel_rfl) (fun _ _ _ h => h) List.mem_cons_self (by rfl) (v := ?_) ?_ (by assumption) ?_; rotate_left; (intro _w _hw; go_simp; try with_reducible rfl); simp only [Act.put, List.setIfInBounds_toArray, List.set_cons_zero, List.set_cons_succ])
      (refine wpD_plain 23 (v := ?_) rfl (by kernel_rfl) (by kernel_rfl) (by kernel_rfl) (fun _ _ _ h => h) (by rfl) ?_ (by assumption) ?_; rotate_left; (intro _w; go_simp; try with_reducible rfl); simp only [Act.put, List.setIfInBounds_toArray, List.set_cons_zero, List.set_cons_succ])
      (refine wpD_plain 24 (v := ?_) rfl (by kernel_rfl) (by kernel_rfl) (by kernel_rfl) (fun _ _ _ h => h) (by rfl) ?_ (by assumption) ?_; rotate_left; (intro _w; go_simp; try with_reducible rfl); simp only [Act.put, List.setIfInBounds_toArray, List.set_cons_zero, List.set_cons_succ])
      (refine wpD_take 25 _ rfl (by kernel_rfl) (by kernel_rfl) (by kernel_rfl) (fun _ _ _ h => h) (List.mem_cons_of_mem _ List.mem_cons_self) (by rfl) (v := ?_) ?_ (by assumption) ?_; rotate_left; (intro _w _hw; go_simp; try with_reducible rfl); simp only [Act.put, List.setIfInBounds_toArray, List.set_cons_zero, List.set_cons_succ])
      refine wpD_only 2 [(21, fun w' => w'.cell? ⟨1, j, none⟩ = some (.int .u32 (kv : Int))), (25, fun w' => w'.cell? ⟨b5, j, none⟩ = some (.int .u32 (mv : Int)))] rfl (by kernel_rfl) (by kernel_rfl) (by rfl) (fun K2 hK2 => ?_)
      refine wp_call _ [_, _] _ rfl _ [] rfl (fun _ _ => by kernel_rfl) [.int .u32 ((S 4) : Int), .int .i64 6] rfl ?_
      refine (right_any (S 4) 6 _ HS4B.out (by decide) (by decide)).mono ?_
      rintro e w' ⟨rfl, rfl⟩
      rw [HR6.out]
      refine ⟨_, rfl, hK2 _ _ (Facts.cons_hold kk (Facts.cons_hold km (Facts.nil_hold _))) ?_⟩
      clear hK2 K2
      simp only [Act.put, List.setIfInBounds_toArray, List.set_cons_zero, List.set_cons_succ]
      refine wpD_only 4 [(21, fun w' => w'.cell? ⟨1, j, none⟩ = some (.int .u32 (kv : Int))), (25, fun w' => w'.cell? ⟨b5, j, none⟩ = some (.int .u32 (mv : Int)))] rfl (by kernel_rfl) (by kernel_rfl) (by rfl) (fun K4 hK4 => ?_)
      refine wp_call _ [_, _] _ rfl _ [] rfl (fun _ _ => by kernel_rfl) [.int .u32 ((S 4) : Int), .int .i64 11] rfl ?_
      refine (right_any (S 4) 11 _ HS4B.out (by decide) (by decide)).mono ?_
      rintro e w' ⟨rfl, rfl⟩
      rw [HR11.out]
      refine ⟨_, rfl, hK4 _ _ (Facts.cons_hold kk (Facts.cons_hold km (Facts.nil_hold _))) ?_⟩
      clear hK4 K4
      simp only [Act.put, List.setIfInBounds_toArray, List.set_cons_zero, List.set_cons_succ]
      (refine wpD_plain 5 (v := ?_) rfl (by kernel_rfl) (by kernel_rfl) (by kernel_rfl) (fun _ _ _ h => h) (by rfl) ?_ (by assumption) ?_; rotate_left; (intro _w; go_simp; try with_reducible rfl); simp only [Act.put, List.setIfInBounds_toArray, List.set_cons_zero, List.set_cons_succ])
      refine wpD_only 7 [(21, fun w' => w'.cell? ⟨1, j, none⟩ = some (.int .u32 (kv : Int))), (25, fun w' => w'.cell? ⟨b5, j, none⟩ = some (.int .u32 (mv : Int)))] rfl (by kernel_rfl) (by kernel_rfl) (by rfl) (fun K7 hK7 => ?_)
      refine wp_call _ [_, _] _ rfl _ [] rfl (fun _ _ => by kernel_rfl) [.int .u32 ((S 4) : Int), .int .i64 25] rfl ?_
      refine (right_any (S 4) 25 _ HS4B.out (by decide) (by decide)).mono ?_
      rintro e w' ⟨rfl, rfl⟩
      rw [HR25.out]
      refine ⟨_, rfl, hK7 _ _ (Facts.cons_hold kk (Facts.cons_hold km (Facts.nil_hold _))) ?_⟩
      clear hK7 K7
      simp only [Act.put, List.setIfInBounds_toArray, List.set_cons_zero, List.set_cons_succ]
      (refine wpD_plain 8 (v := ?_) rfl (by kernel_rfl) (by kernel_rfl) (by kernel_rfl) (fun _ _ _ h => h) (by rfl) ?_ (by assumption) ?_; rotate_left; (intro _w; go_simp; try with_reducible rfl); simp only [Act.put, List.setIfInBounds_toArray, List.set_cons_zero, List.set_cons_succ])
      (refine wpD_plain 9 (v := (.int .u32 (((S 7 + E1) % 4294967296 : Nat) : Int))) rfl (by kernel_rfl) (by kernel_rfl) (by kernel_rfl) (fun _ _ _ h => h) (by rfl) ?_ (by assumption) ?_; (intro _w; go_simp; (first | omega | (rw [IntKind.wrap_u32']; omega) | rfl)); simp only [Act.put, List.setIfInBounds_toArray, List.set_cons_zero, List.set_cons_succ])
      (refine wpD_plain 18 (v := (.int .u32 (((S 7 + E1 + C1) % 4294967296 : Nat) : Int))) rfl (by kernel_rfl) (by kernel_rfl) (by kernel_rfl) (fun _ _ _ h => h) (by rfl) ?_ (by assumption) ?_; (intro _w; go_simp; (first | omega | (rw [IntKind.wrap_u32']; omega) | rfl)); simp only [Act.put, List.setIfInBounds_toArray, List.set_cons_zero, List.set_cons_succ])
      (refine wpD_plain 22 (v := (.int .u32 (((S 7 + E1 + C1 + kv) % 4294967296 : Nat) : Int))) rfl (by kernel_rfl) (by kernel_rfl) (by kernel_rfl) (fun _ _ _ h => h) (by rfl) ?_ (by assumption) ?_; (intro _w; go_simp; (first | omega | (rw [IntKind.wrap_u32']; omega) | rfl)); simp only [Act.put, List.setIfInBounds_toArray, List.set_cons_zero, List.set_cons_succ])
      (refine wpD_plain 26 (v := (.int .u32 (X : Int))) rfl (by kernel_rfl) (by kernel_rfl) (by kernel_rfl) (fun _ _ _ h => h) (by rfl) ?_ (by assumption) ?_; (intro _w; go_simp; (have := HX.out; first | omega | (rw [IntKind.wrap_u32']; omega))); simp only [Act.put, List.setIfInBounds_toArray, List.set_cons_zero, List.set_cons_succ])
      (refine wpD_plain 27 (v := ?_) rfl (by kernel_rfl) (by kernel_rfl) (by kernel_rfl) (fun _ _ _ h => h) (by rfl) ?_ (by assumption) ?_; rotate_left; (intro _w; go_simp; try with_reducible rfl); simp only [Act.put, List.setIfInBounds_toArray, List.set_cons_zero, List.set_cons_succ])
      refine wpD_done (by kernel_rfl) ?_ _
      clear hold
      go_wp2_with fail
      refine (right_any (S 0) 2 _ HS0B.out (by decide) (by decide)).mono ?_
      rintro e w' ⟨rfl, rfl⟩
      rw [HR2.out]
      go_wp2_with fail
      refine (right_any (S 0) 13 _ HS0B.out (by decide) (by decide)).mono ?_
      rintro e w' ⟨rfl, rfl⟩
      rw [HR13.out]
      go_wp2_with fail
      refine (right_any (S 0) 22 _ HS0B.out (by decide) (by decide)).mono ?_
      rintro e w' ⟨rfl, rfl⟩
      rw [HR22.out]
      go_wp2_with fail
      have hq := HQ.out
      have hy := HY.out
      go_roundw
      case rel => exact ⟨j + 1, by omega, congrArg (Value.int .u32) (by rw [hq.1]; omega), congrArg (Value.int .u32) (by rw [hq.2.1]), congrArg (Value.int .u32) (by rw [hq.2.2.1]), congrArg (Value.int .u32) (by rw [hq.2.2.2.1]), congrArg (Value.int .u32) (by rw [hq.2.2.2.2.1]; omega), congrArg (Value.int .u32) (by rw [hq.2.2.2.2.2.1]), congrArg (Value.int .u32) (by rw [hq.2.2.2.2.2.2.1]), congrArg (Value.int .u32) (by rw [hq.2.2.2.2.2.2.2]), by go_num, hid ⟨HR.out.1, HR.out.2.1, HR.out.2.2.1, HR.out.2.2.2.1, HR.out.2.2.2.2.drew⟩⟩
      case measure => simp [intOf]; omega
    · obtain rfl : j = 64 := by omega
      obtain ⟨Z, hZ⟩ : ∃ Z, rds M s 64 = Z := ⟨_, rfl⟩
      have HZB := hid (hZ ▸ rds_lt M HS.out 64 : B32 Z)
      have hcp : ∀ i, comp s (mB B) i = (s i + Z i) % 4294967296 := fun i => by rw [HCP.out, hZ]
      have HCZ := hid hcp
      rw [hZ]
      clear hZ hcp HCP
      go_wp2_with (first
        | ((with_reducible show wpList _ _ _ ({ dst := _, op := .build 41 _, type := _, pos := _, after := _, guard := _ } :: _) _ _); refine wpL_build rfl _ [(0, .tmp 100), (1, .tmp 101), (2, .tmp 102), (3, .tmp 103), (4, .tmp 104), (5, .tmp 105), (6, .tmp 106), (7, .tmp 107)] rfl (ba .u32 Z 8) (build8 Z _) ?_)
        | fail)
      have HR2 := hid (show Blk wr b2 41 (bw .u32 (upto 0 (comp s (mB B)) s) 8) ∧ Blk wr b4 41 (bw .u32 (fun _ => 0) 8) ∧ Fr No w wr from by
        rw [upto_zero]
        exact ⟨HR.out.1, HR.out.2.1, HR.out.2.2.2.2⟩)
      clear HR
      go_loopw [109] (fun i wr => ∃ j : Nat, j ≤ 8 ∧ i = .int .i64 j ∧ Hid (Blk wr b2 41 (bw .u32 (upto j (comp s (mB B)) s) 8) ∧ Blk wr b4 41 (bw .u32 (fun _ => 0) 8) ∧ Fr No w wr)) (fun i _ => 8 - (intOf i).toNat)
      case atStart => exact ⟨0, by omega, rfl, HR2⟩
      case round =>
        clear HR2
        obtain ⟨j, hj, rfl, HR⟩ := hrel
        by_cases hlt2 : j < 8
        · have c1 := blk_at HR.out.1 hlt2
          rw [upto_get _ _ (Nat.le_refl j)] at c1
          have hz := index8 Z j hlt2
          have hcz := HCZ.out j
          have b1 := HS.out j
          have b2' := HZB.out j
          obtain ⟨x, hx⟩ : ∃ x, s j = x := ⟨_, rfl⟩
          obtain ⟨z, hz'⟩ : ∃ z, Z j = z := ⟨_, rfl⟩
          rw [hx] at c1 hcz b1
          rw [hz'] at hz hcz b2'
          have HCJ := hid hcz
          have hji : (j : Int) < 8 := by omega
          clear hcz hx hz'
          unfold ba
          go_wp2_with (first
            | ((with_reducible show wpList _ _ _ ({ dst := _, op := .store 40 _ _, type := _, pos := _, after := _, guard := _ } :: _) _ _); refine wpL_put rfl _ _ _ rfl b2 j (comp s (mB B) j) rfl (by rw [HCJ.out]; rfl) _ _ 8 HR.out.1 hlt2 infoW ?_; intro w5 HB5 HF5 HS5)
            | fail)
          have HR' := hid (show Blk w5 b2 41 (bw .u32 (upto (j + 1) (comp s (mB B)) s) 8) ∧ Blk w5 b4 41 (bw .u32 (fun _ => 0) 8) ∧ Fr No w w5 by
            have hn := HN.out
            rw [← upto_set]
            exact ⟨HB5.out, HR.out.2.1.fr HF5.out (by omega), HR.out.2.2.trans HF5.out fun i e => .inr (by have : i = b2 := e; omega)⟩)
          clear HR HB5 HF5 HS5 c1
          go_wp2_with fail
          go_roundw
          case rel => exact ⟨j + 1, by omega, by go_num, HR'⟩
          case measure => simp [intOf]; omega
        · obtain rfl : j = 8 := by omega
          go_wp2_with (first
            | ((with_reducible show wpList _ _ _ ({ dst := _, op := .load 41 _, type := _, pos := _, after := _, guard := _ } :: _) _ _); refine wpL_all rfl _ _ rfl b2 rfl _ (upto 8 (comp s (mB B)) s) 8 _ HR.out.1 rfl rfl info8w ?_)
            | ((with_reducible show wpList _ _ _ ({ dst := _, op := .store 41 _ _, type := _, pos := _, after := _, guard := _ } :: _) _ _); refine wpL_whole rfl _ _ _ rfl b4 (upto 8 (comp s (mB B)) s) 8 rfl rfl _ _ HR.out.2.1 info8w ?_; intro w5 HB5 HF5 HS5)
            | fail)
          have hB5 := HB5.out
          rw [upto_all] at hB5
          refine ret_cell rfl _ rfl hB5 rfl rfl (by simpa using info8w) rfl ?_
          exact ⟨rfl, HR.out.2.2.trans HF5.out fun i e => .inr (by have := HN.out; have : i = b4 := e; omega)⟩
end Go.Proofs.YtejbanlhgnlliaaDoor.SH
