/-
  Part 4 of the proof: ThaN, ThaE, ThaI, ThaF, ThaQ, ThaH.
-/
import Derived.Test.YtakmeipmngeilaaSe803
import Derived.Test.YtakmeipmngeilaaSe802
import Derived.Deep.Upon
set_option linter.unusedVariables false
set_option linter.unusedSimpArgs false
set_option linter.unusedSectionVars false
namespace Go.Proofs.Ytakmeipmngeilaa.SH
set_option maxRecDepth 100000
open Go.RowKit K AR
variable [Tab]

theorem build8 (f : Nat → Nat) (w : World) : (Instr.build 92 #[(0, .int .u32 (f 0 : Int)), (1, .int .u32 (f 1 : Int)), (2, .int .u32 (f 2 : Int)), (3, .int .u32 (f 3 : Int)), (4, .int .u32 (f 4 : Int)), (5, .int .u32 (f 5 : Int)), (6, .int .u32 (f 6 : Int)), (7, .int .u32 (f 7 : Int))]).run Try.prog w = .ok (ba .u32 f 8) w := by kernel_rfl
theorem index8 (Z : Nat → Nat) (j : Nat) (hj : j < 8) (W : World) : (Instr.index 92 (.agg (bw .u32 Z 8).toArray) (.int .i64 (j : Int))).run Try.prog W = .ok (.int .u32 (Z j : Int)) W := by
  have : j = 0 ∨ j = 1 ∨ j = 2 ∨ j = 3 ∨ j = 4 ∨ j = 5 ∨ j = 6 ∨ j = 7 := by omega
  rcases this with rfl | rfl | rfl | rfl | rfl | rfl | rfl | rfl <;> rfl
theorem flip_nat (n x : Nat) (hx : x < 2 ^ n) : (2 ^ n - 1) ^^^ x = 2 ^ n - (x + 1) := Nat.eq_of_testBit_eq fun i => by
  rw [Nat.testBit_xor, Nat.testBit_two_pow_sub_one, Nat.testBit_two_pow_sub_succ hx]
  by_cases h : i < n
  · simp [h]
  · have : x.testBit i = false := Nat.testBit_lt_two_pow (Nat.lt_of_lt_of_le hx (Nat.pow_le_pow_right (by decide) (by omega)))
    simp [h, this]
theorem not32 {x v : Nat} (hx : x < 4294967296) (hv : 4294967295 - x = v) : bits .xor .u32 (if IntKind.u32.signed = true then -1 else IntKind.u32.max) (x : Int) = (v : Int) := by
  have e : (if IntKind.u32.signed = true then (-1 : Int) else IntKind.u32.max) = ((4294967295 : Nat) : Int) := by decide
  rw [e, xor32 (by decide) hx]
  have := flip_nat 32 x hx
  congr 1
  rw [← hv]
  refine Eq.trans ?_ (this.trans ?_)
  · rfl
  · omega
theorem comp_at (s m : Nat → Nat) (i : Nat) : comp s m i = (s i + rds (wS m 48) s 64 i) % 4294967296 := by rw [comp]
set_option maxHeartbeats 8000000 in
theorem next_any (s : Nat → Nat) (hs : B32 s) (B : Nat → Nat) (hB : B8 B) (g o c : Nat) (w : World) (hb : ∀ i, i < 64 → w.cell? ⟨g, o + i, none⟩ = some (.int .u8 (B i : Int))) (hg : Gl w) :
    Calls Try.prog 81 #[ba .u32 s 8, .slice (some ⟨g, o, none⟩) 64 c] w fun e w' => e = .returned (ba .u32 (comp s (mB B)) 8) ∧ Fr No w w' := by
  have HS := hid hs; have HB := hid hb; have HGL := hid hg
  clear hs hb hg
  go_enter Try.func81, Try.ntmps81
  go_wp2_with (first
    | ((with_reducible show wpList _ _ _ (⟨_, .box 92 _, _, _, _, _⟩ :: _) _ _); refine wpL_box rfl _ _ rfl (ba .u32 s 8) rfl (bw .u32 s 8) rfl ?_; intro w1 HB1 HF1 HS1)
    | ((with_reducible show wpList _ _ _ (⟨_, .alloc 92, _, _, _, _⟩ :: _) _ _); refine wpL_alloc rfl _ rfl _ zero8w (bw .u32 (fun _ => 0) 8) rfl ?_; intro w2 HB2 HF2 HS2)
    | fail)
  have hf2 := HF1.out.trans' HF2.out
  refine (schedule_any B hB g o c _ (fun i hi => hf2.cell (HB.out i hi) id)).mono ?_
  rintro e w3 ⟨rfl, hf3⟩
  obtain ⟨b2, hb2⟩ : ∃ b, w.heap.size = b := ⟨_, rfl⟩
  obtain ⟨b4, hb4⟩ : ∃ b, w1.heap.size = b := ⟨_, rfl⟩
  have HR0 := hid (show Blk w3 b2 92 (bw .u32 s 8) ∧ Blk w3 b4 92 (bw .u32 (fun _ => 0) 8) ∧ Gl w3 ∧ Fr No w w3 from
    ⟨by rw [← hb2]; exact (HB1.out.fr HF2.out id).fr hf3 id, by rw [← hb4]; exact HB2.out.fr hf3 id, HGL.out.no (hf2.trans' hf3), hf2.trans' hf3⟩)
  have HN := hid (show w.heap.size = b2 ∧ b2 < b4 ∧ b4 < w3.heap.size by have := HS1.out; have := HS2.out; have := hf3.size; omega)
  rw [hb2, hb4]
  clear HB1 HF1 HS1 HB2 HF2 HS2 hf2 hf3 hb2 hb4 HGL HB
  go_wp2_with (first
    | ((with_reducible show wpList _ _ _ (⟨_, .alloc 94, _, _, _, _⟩ :: _) _ _); refine wpL_alloc rfl _ rfl _ zero64w (bw .u32 (fun _ => 0) 64) rfl ?_; intro w4 HB4 HF4 HS4)
    | ((with_reducible show wpList _ _ _ (⟨_, .store 94 _ _, _, _, _, _⟩ :: _) _ _); refine wpL_whole rfl _ _ _ rfl w3.heap.size (wS (mB B) 48) 64 rfl rfl _ _ HB4.out info64w ?_; intro w5 HB5 HF5 HS5)
    | fail)
  obtain ⟨b5, hb5⟩ : ∃ b, w3.heap.size = b := ⟨_, rfl⟩
  have hm : Fr No w3 w5 := HF4.out.trans HF5.out fun i e => .inr (by have : i = w3.heap.size := e; omega)
  have hM := wS_lt (mB_lt hB) 48
  have hcp := comp_at s (mB B)
  obtain ⟨M, hMe⟩ : ∃ M, wS (mB B) 48 = M := ⟨_, rfl⟩
  have hB5 := HB5.out
  rw [hMe] at hM hcp hB5
  rw [hb5] at hB5
  have HCP := hid hcp; have HMB := hid hM
  have HR1 := hid (show Blk w5 b2 92 (bw .u32 s 8) ∧ Blk w5 b4 92 (bw .u32 (fun _ => 0) 8) ∧ Blk w5 b5 94 (bw .u32 M 64) ∧ Gl w5 ∧ Fr No w w5 from
    ⟨HR0.out.1.fr hm id, HR0.out.2.1.fr hm id, hB5, HR0.out.2.2.1.no hm, HR0.out.2.2.2.trans' hm⟩)
  have HN5 := hid (show b4 < b5 ∧ b2 < b5 by have := HN.out; omega)
  rw [hb5, hMe]
  clear HR0 HB4 HF4 HS4 HB5 HF5 HS5 hm hb5 hB5 hM hcp hMe
  have k0 := blk_at HR1.out.1 (i := 0) (by decide)
  have k1 := blk_at HR1.out.1 (i := 1) (by decide)
  have k2 := blk_at HR1.out.1 (i := 2) (by decide)
  have k3 := blk_at HR1.out.1 (i := 3) (by decide)
  have k4 := blk_at HR1.out.1 (i := 4) (by decide)
  have k5 := blk_at HR1.out.1 (i := 5) (by decide)
  have k6 := blk_at HR1.out.1 (i := 6) (by decide)
  have k7 := blk_at HR1.out.1 (i := 7) (by decide)
  go_wp2_with fail
  go_quiet (fail)
  go_wp2_with fail
  generalize hw6 : w5.drewN _ = w6
  have k0' : w6.cell? ⟨b2, 4, none⟩ = some (.int .u32 (s 4 : Int)) := by rw [← hw6]; exact k4
  have k1' : w6.cell? ⟨b2, 5, none⟩ = some (.int .u32 (s 5 : Int)) := by rw [← hw6]; exact k5
  have k2' : w6.cell? ⟨b2, 6, none⟩ = some (.int .u32 (s 6 : Int)) := by rw [← hw6]; exact k6
  have k3' : w6.cell? ⟨b2, 7, none⟩ = some (.int .u32 (s 7 : Int)) := by rw [← hw6]; exact k7
  have HR2 := hid (show Blk w6 b2 92 (bw .u32 s 8) ∧ Blk w6 b4 92 (bw .u32 (fun _ => 0) 8) ∧ Blk w6 b5 94 (bw .u32 M 64) ∧ Gl w6 ∧ Fr No w w6 by
    rw [← hw6]
    exact ⟨HR1.out.1, HR1.out.2.1, HR1.out.2.2.1, HR1.out.2.2.2.1, HR1.out.2.2.2.2.drewN _⟩)
  clear hw6 HR1 k0 k1 k2 k3 k4 k5 k6 k7
  go_quiet (fail)
  go_wp2_with fail
  generalize hw7 : w6.drewN _ = w7
  have HR := hid (show Blk w7 b2 92 (bw .u32 s 8) ∧ Blk w7 b4 92 (bw .u32 (fun _ => 0) 8) ∧ Blk w7 b5 94 (bw .u32 M 64) ∧ Gl w7 ∧ Fr No w w7 by
    rw [← hw7]
    exact ⟨HR2.out.1, HR2.out.2.1, HR2.out.2.2.1, HR2.out.2.2.2.1, HR2.out.2.2.2.2.drewN _⟩)
  clear hw7 HR2 k0' k1' k2' k3'
  go_loopw [6, 7, 8, 9, 10, 11, 12, 13, 37] (fun va vb vc vd ve vf vg vh i wr => ∃ j : Nat, j ≤ 64 ∧ va = .int .u32 (rds M s j 0 : Nat) ∧ vb = .int .u32 (rds M s j 1 : Nat) ∧ vc = .int .u32 (rds M s j 2 : Nat) ∧ vd = .int .u32 (rds M s j 3 : Nat) ∧ ve = .int .u32 (rds M s j 4 : Nat) ∧ vf = .int .u32 (rds M s j 5 : Nat) ∧ vg = .int .u32 (rds M s j 6 : Nat) ∧ vh = .int .u32 (rds M s j 7 : Nat) ∧ i = .int .i64 j ∧ Hid (Blk wr b2 92 (bw .u32 s 8) ∧ Blk wr b4 92 (bw .u32 (fun _ => 0) 8) ∧ Blk wr b5 94 (bw .u32 M 64) ∧ Gl wr ∧ Fr No w wr)) (fun _ _ _ _ _ _ _ _ i _ => 64 - (intOf i).toNat)
  case atStart => exact ⟨0, by omega, rfl, rfl, rfl, rfl, rfl, rfl, rfl, rfl, rfl, HR⟩
  case round =>
    clear HR
    obtain ⟨j, hj, rfl, rfl, rfl, rfl, rfl, rfl, rfl, rfl, rfl, HR⟩ := hrel
    by_cases hlt : j < 64
    · as_aux_lemma =>
      obtain ⟨S, hS⟩ : ∃ S, rds M s j = S := ⟨_, rfl⟩
      have HSB := hid (hS ▸ rds_lt M HS.out j : B32 S)
      have HSE := hid hS
      rw [hS]
      clear hS
      have kk := HR.out.2.2.2.1.kc hlt
      have km := blk_at HR.out.2.2.1 (i := j) hlt
      have hX : rx (kc j) (M j) S = (S 7 + e1 (S 4) + ch (S 4) (S 5) (S 6) + kc j + M j) % 4294967296 := rfl
      have hY : ry S = (e0 (S 0) + maj (S 0) (S 1) (S 2)) % 4294967296 := rfl
      have b0 := HSB.out 0; have b1' := HSB.out 1; have b2' := HSB.out 2; have b4' := HSB.out 4; have b5' := HSB.out 5; have b6' := HSB.out 6
      have n6 := R_lt (n := 6) b4'; have n11 := R_lt (n := 11) b4'; have n25 := R_lt (n := 25) b4'
      have n2 := R_lt (n := 2) b0; have n13 := R_lt (n := 13) b0; have n22 := R_lt (n := 22) b0
      have he1 : e1 (S 4) = R 6 (S 4) ^^^ R 11 (S 4) ^^^ R 25 (S 4) := rfl
      have he0 : e0 (S 0) = R 2 (S 0) ^^^ R 13 (S 0) ^^^ R 22 (S 0) := rfl
      have hch : ch (S 4) (S 5) (S 6) = (S 4 &&& S 5) ^^^ ((4294967295 - S 4) &&& S 6) := rfl
      have hmj : maj (S 0) (S 1) (S 2) = (S 0 &&& S 1) ^^^ (S 0 &&& S 2) ^^^ (S 1 &&& S 2) := rfl
      obtain ⟨r6, hr6⟩ : ∃ x, R 6 (S 4) = x := ⟨_, rfl⟩
      obtain ⟨r11, hr11⟩ : ∃ x, R 11 (S 4) = x := ⟨_, rfl⟩
      obtain ⟨r25, hr25⟩ : ∃ x, R 25 (S 4) = x := ⟨_, rfl⟩
      obtain ⟨r2, hr2⟩ : ∃ x, R 2 (S 0) = x := ⟨_, rfl⟩
      obtain ⟨r13, hr13⟩ : ∃ x, R 13 (S 0) = x := ⟨_, rfl⟩
      obtain ⟨r22, hr22⟩ : ∃ x, R 22 (S 0) = x := ⟨_, rfl⟩
      rw [hr6] at n6 he1
      rw [hr11] at n11 he1
      rw [hr25] at n25 he1
      rw [hr2] at n2 he0
      rw [hr13] at n13 he0
      rw [hr22] at n22 he0
      obtain ⟨v4, hv4⟩ : ∃ x, 4294967295 - S 4 = x := ⟨_, rfl⟩
      have bv4 : v4 < 4294967296 := by omega
      rw [hv4] at hch
      have x1 := xor32 n6 n11
      have x2 := xor32 (xor_lt n6 n11) n25
      rw [← he1] at x2
      have x3 := and32 b4' b5'
      have x4 := and32 bv4 b6'
      have x5 := xor32 (and_lt (a := S 4) b5') (and_lt (a := v4) b6')
      rw [← hch] at x5
      have x6 := xor32 n2 n13
      have x7 := xor32 (xor_lt n2 n13) n22
      rw [← he0] at x7
      have x8 := and32 b0 b1'
      have x9 := and32 b0 b2'
      have x10 := xor32 (and_lt (a := S 0) b1') (and_lt (a := S 0) b2')
      have x11 := and32 b1' b2'
      have x12 := xor32 (xor_lt (and_lt (a := S 0) b1') (and_lt (a := S 0) b2')) (and_lt (a := S 1) b2')
      rw [← hmj] at x12
      obtain ⟨y1, hy1e⟩ : ∃ x, r6 ^^^ r11 = x := ⟨_, rfl⟩
      rw [hy1e] at x1 x2
      obtain ⟨y3, hy3e⟩ : ∃ x, S 4 &&& S 5 = x := ⟨_, rfl⟩
      rw [hy3e] at x3 x5
      obtain ⟨y4, hy4e⟩ : ∃ x, v4 &&& S 6 = x := ⟨_, rfl⟩
      rw [hy4e] at x4 x5
      obtain ⟨y6, hy6e⟩ : ∃ x, r2 ^^^ r13 = x := ⟨_, rfl⟩
      rw [hy6e] at x6 x7
      obtain ⟨y10, hy10e⟩ : ∃ x, (S 0 &&& S 1) ^^^ (S 0 &&& S 2) = x := ⟨_, rfl⟩
      rw [hy10e] at x10 x12
      obtain ⟨y8, hy8e⟩ : ∃ x, S 0 &&& S 1 = x := ⟨_, rfl⟩
      rw [hy8e] at x8 x10
      obtain ⟨y9, hy9e⟩ : ∃ x, S 0 &&& S 2 = x := ⟨_, rfl⟩
      rw [hy9e] at x9 x10
      obtain ⟨y11, hy11e⟩ : ∃ x, S 1 &&& S 2 = x := ⟨_, rfl⟩
      rw [hy11e] at x11 x12
      obtain ⟨E1, he1e⟩ : ∃ x, e1 (S 4) = x := ⟨_, rfl⟩
      rw [he1e] at x2 hX
      obtain ⟨E0, he0e⟩ : ∃ x, e0 (S 0) = x := ⟨_, rfl⟩
      rw [he0e] at x7 hY
      obtain ⟨C1, hc1e⟩ : ∃ x, ch (S 4) (S 5) (S 6) = x := ⟨_, rfl⟩
      rw [hc1e] at x5 hX
      obtain ⟨M1, hm1e⟩ : ∃ x, maj (S 0) (S 1) (S 2) = x := ⟨_, rfl⟩
      rw [hm1e] at x12 hY
      obtain ⟨X, hxe⟩ : ∃ x, rx (kc j) (M j) S = x := ⟨_, rfl⟩
      rw [hxe] at hX
      obtain ⟨Y, hye⟩ : ∃ x, ry S = x := ⟨_, rfl⟩
      rw [hye] at hY
      obtain ⟨kv, hkve⟩ : ∃ x, kc j = x := ⟨_, rfl⟩
      rw [hkve] at hX kk
      obtain ⟨mv, hmve⟩ : ∃ x, M j = x := ⟨_, rfl⟩
      rw [hmve] at hX km
      have HR6 := hid hr6; have HR11 := hid hr11; have HR25 := hid hr25; have HR2 := hid hr2; have HR13 := hid hr13; have HR22 := hid hr22; have HV4 := hid hv4; have HX := hid hX; have HY := hid hY; have HXE := hid hxe; have HYE := hid hye; have HS4B := hid b4'; have HS0B := hid b0
      clear hr6 hr11 hr25 hr2 hr13 hr22 hv4 hX hY he1 he0 hch hmj n6 n11 n25 n2 n13 n22 b0 b1' b2' b4' b5' b6' bv4 hy1e hy3e hy4e hy6e hy10e hy8e hy9e hy11e he1e he0e hc1e hm1e hxe hye hkve hmve
      have hj64 : (j : Int) < 64 := by omega

      have q0 : rds M s (j + 1) 0 = (X + Y) % 4294967296 := by show (rx (kc j) (M j) (rds M s j) + ry (rds M s j)) % 4294967296 = _; rw [HSE.out, HXE.out, HYE.out]
      have q4 : rds M s (j + 1) 4 = (S 3 + X) % 4294967296 := by show (rds M s j 3 + rx (kc j) (M j) (rds M s j)) % 4294967296 = _; rw [HSE.out, HXE.out]
      have q1 : rds M s (j + 1) 1 = S 0 := by show rds M s j 0 = _; rw [HSE.out]
      have q2 : rds M s (j + 1) 2 = S 1 := by show rds M s j 1 = _; rw [HSE.out]
      have q3 : rds M s (j + 1) 3 = S 2 := by show rds M s j 2 = _; rw [HSE.out]
      have q5 : rds M s (j + 1) 5 = S 4 := by show rds M s j 4 = _; rw [HSE.out]
      have q6 : rds M s (j + 1) 6 = S 5 := by show rds M s j 5 = _; rw [HSE.out]
      have q7 : rds M s (j + 1) 7 = S 6 := by show rds M s j 6 = _; rw [HSE.out]
      have HQ := hid (show rds M s (j + 1) 0 = (X + Y) % 4294967296 ∧ rds M s (j + 1) 1 = S 0 ∧ rds M s (j + 1) 2 = S 1 ∧ rds M s (j + 1) 3 = S 2 ∧ rds M s (j + 1) 4 = (S 3 + X) % 4294967296 ∧ rds M s (j + 1) 5 = S 4 ∧ rds M s (j + 1) 6 = S 5 ∧ rds M s (j + 1) 7 = S 6 from ⟨q0, q1, q2, q3, q4, q5, q6, q7⟩)
      clear q0 q1 q2 q3 q4 q5 q6 q7
      have b3' := HSB.out 3; have b7' := HSB.out 7; have b5' := HSB.out 5; have b6' := HSB.out 6; have b1' := HSB.out 1; have b2' := HSB.out 2
      clear b1' b2' b3' b5' b6' b7' HSB HSE HXE HYE
      go_wp2_with fail
      have hold : Facts.hold [(21, fun w' => w'.cell? ⟨1, j, none⟩ = some (.int .u32 (kv : Int))), (25, fun w' => w'.cell? ⟨b5, j, none⟩ = some (.int .u32 (mv : Int)))] wr.drew := (Facts.cons_hold kk (Facts.cons_hold km (Facts.nil_hold _)))
      refine wpD_region hold (by kernel_rfl) 28 rfl ?_
      (refine wpD_plain 0 (v := ?_) rfl (by kernel_rfl) (by kernel_rfl) (by kernel_rfl) (fun _ _ _ h => h) (by rfl) ?_ (by assumption) ?_; rotate_left; (intro _w; go_simp; try with_reducible rfl); simp only [Act.put, List.setIfInBounds_toArray, List.set_cons_zero, List.set_cons_succ])
      (refine wpD_plain 1 (v := ?_) rfl (by kernel_rfl) (by kernel_rfl) (by kernel_rfl) (fun _ _ _ h => h) (by rfl) ?_ (by assumption) ?_; rotate_left; (intro _w; go_simp; try with_reducible rfl); simp only [Act.put, List.setIfInBounds_toArray, List.set_cons_zero, List.set_cons_succ])
      (refine wpD_plain 3 (v := ?_) rfl (by kernel_rfl) (by kernel_rfl) (by kernel_rfl) (fun _ _ _ h => h) (by rfl) ?_ (by assumption) ?_; rotate_left; (intro _w; go_simp; try with_reducible rfl); simp only [Act.put, List.setIfInBounds_toArray, List.set_cons_zero, List.set_cons_succ])
      (refine wpD_plain 6 (v := ?_) rfl (by kernel_rfl) (by kernel_rfl) (by kernel_rfl) (fun _ _ _ h => h) (by rfl) ?_ (by assumption) ?_; rotate_left; (intro _w; go_simp; try with_reducible rfl); simp only [Act.put, List.setIfInBounds_toArray, List.set_cons_zero, List.set_cons_succ])
      (refine wpD_plain 10 (v := ?_) rfl (by kernel_rfl) (by kernel_rfl) (by kernel_rfl) (fun _ _ _ h => h) (by rfl) ?_ (by assumption) ?_; rotate_left; (intro _w; go_simp; try with_reducible rfl); simp only [Act.put, List.setIfInBounds_toArray, List.set_cons_zero, List.set_cons_succ])
      (refine wpD_plain 11 (v := ?_) rfl (by kernel_rfl) (by kernel_rfl) (by kernel_rfl) (fun _ _ _ h => h) (by rfl) ?_ (by assumption) ?_; rotate_left; (intro _w; go_simp; try with_reducible rfl); simp only [Act.put, List.setIfInBounds_toArray, List.set_cons_zero, List.set_cons_succ])
      (refine wpD_plain 12 (v := ?_) rfl (by kernel_rfl) (by kernel_rfl) (by kernel_rfl) (fun _ _ _ h => h) (by rfl) ?_ (by assumption) ?_; rotate_left; (intro _w; go_simp; try with_reducible rfl); simp only [Act.put, List.setIfInBounds_toArray, List.set_cons_zero, List.set_cons_succ])
      (refine wpD_plain 13 (v := ?_) rfl (by kernel_rfl) (by kernel_rfl) (by kernel_rfl) (fun _ _ _ h => h) (by rfl) ?_ (by assumption) ?_; rotate_left; (intro _w; go_simp; try with_reducible rfl); simp only [Act.put, List.setIfInBounds_toArray, List.set_cons_zero, List.set_cons_succ])
      (refine wpD_plain 14 (v := (.int .u32 (v4 : Int))) rfl (by kernel_rfl) (by kernel_rfl) (by kernel_rfl) (fun _ _ _ h => h) (by rfl) ?_ (by assumption) ?_; (intro _w; go_simp; (exact not32 HS4B.out HV4.out)); simp only [Act.put, List.setIfInBounds_toArray, List.set_cons_zero, List.set_cons_succ])
      (refine wpD_plain 15 (v := ?_) rfl (by kernel_rfl) (by kernel_rfl) (by kernel_rfl) (fun _ _ _ h => h) (by rfl) ?_ (by assumption) ?_; rotate_left; (intro _w; go_simp; try with_reducible rfl); simp only [Act.put, List.setIfInBounds_toArray, List.set_cons_zero, List.set_cons_succ])
      (refine wpD_plain 16 (v := ?_) rfl (by kernel_rfl) (by kernel_rfl) (by kernel_rfl) (fun _ _ _ h => h) (by rfl) ?_ (by assumption) ?_; rotate_left; (intro _w; go_simp; try with_reducible rfl); simp only [Act.put, List.setIfInBounds_toArray, List.set_cons_zero, List.set_cons_succ])
      (refine wpD_plain 17 (v := ?_) rfl (by kernel_rfl) (by kernel_rfl) (by kernel_rfl) (fun _ _ _ h => h) (by rfl) ?_ (by assumption) ?_; rotate_left; (intro _w; go_simp; try with_reducible rfl); simp only [Act.put, List.setIfInBounds_toArray, List.set_cons_zero, List.set_cons_succ])
      (refine wpD_plain 19 (v := ?_) rfl (by kernel_rfl) (by kernel_rfl) (by kernel_rfl) (fun _ _ _ h => h) (by rfl) ?_ (by assumption) ?_; rotate_left; (intro _w; go_simp; try with_reducible rfl); simp only [Act.put, List.setIfInBounds_toArray, List.set_cons_zero, List.set_cons_succ])
      (refine wpD_plain 20 (v := ?_) rfl (by kernel_rfl) (by kernel_rfl) (by kernel_rfl) (fun _ _ _ h => h) (by rfl) ?_ (by assumption) ?_; rotate_left; (intro _w; go_simp; try with_reducible rfl); simp only [Act.put, List.setIfInBounds_toArray, List.set_cons_zero, List.set_cons_succ])
      (refine wpD_take 21 _ rfl (by kernel_rfl) (by kernel_rfl) (by kernel_rfl) (fun _ _ _ h => h) List.mem_cons_self (by rfl) (v := ?_) ?_ (by assumption) ?_; rotate_left; (intro _w _hw; go_simp; try with_reducible rfl); simp only [Act.put, List.setIfInBounds_toArray, List.set_cons_zero, List.set_cons_succ])
      (refine wpD_plain 23 (v := ?_) rfl (by kernel_rfl) (by kernel_rfl) (by kernel_rfl) (fun _ _ _ h => h) (by rfl) ?_ (by assumption) ?_; rotate_left; (intro _w; go_simp; try with_reducible rfl); simp only [Act.put, List.setIfInBounds_toArray, List.set_cons_zero, List.set_cons_succ])
      (refine wpD_plain 24 (v := ?_) rfl (by kernel_rfl) (by kernel_rfl) (by kernel_rfl) (fun _ _ _ h => h) (by rfl) ?_ (by assumption) ?_; rotate_left; (intro _w; go_simp; try with_reducible rfl); simp only [Act.put, List.setIfInBounds_toArray, List.set_cons_zero, List.set_cons_succ])
      (refine wpD_take 25 _ rfl (by kernel_rfl) (by kernel_rfl) (by kernel_rfl) (fun _ _ _ h => h) (List.mem_cons_of_mem _ List.mem_cons_self) (by rfl) (v := ?_) ?_ (by assumption) ?_; rotate_left; (intro _w _hw; go_simp; try with_reducible rfl); simp only [Act.put, List.setIfInBounds_toArray, List.set_cons_zero, List.set_cons_succ])
      refine wpD_only 2 [(21, fun w' => w'.cell? ⟨1, j, none⟩ = some (.int .u32 (kv : Int))), (25, fun w' => w'.cell? ⟨b5, j, none⟩ = some (.int .u32 (mv : Int)))] rfl (by kernel_rfl) (by kernel_rfl) (by rfl) (fun K2 hK2 => ?_)
      refine wp_call _ [_, _] _ rfl _ [] rfl (fun _ _ => by kernel_rfl) [.int .u32 ((S 4) : Int), .int .i64 6] rfl ?_
      refine (right_any (S 4) 6 _ HS4B.out (by decide) (by decide)).mono ?_
      rintro e w' ⟨rfl, rfl⟩
      rw [HR6.out]
      refine ⟨_, rfl, hK2 _ _ (Facts.cons_hold kk (Facts.cons_hold km (Facts.nil_hold _))) ?_⟩
      clear hK2 K2
      simp only [Act.put, List.setIfInBounds_toArray, List.set_cons_zero, List.set_cons_succ]
      refine wpD_only 4 [(21, fun w' => w'.cell? ⟨1, j, none⟩ = some (.int .u32 (kv : Int))), (25, fun w' => w'.cell? ⟨b5, j, none⟩ = some (.int .u32 (mv : Int)))] rfl (by kernel_rfl) (by kernel_rfl) (by rfl) (fun K4 hK4 => ?_)
      refine wp_call _ [_, _] _ rfl _ [] rfl (fun _ _ => by kernel_rfl) [.int .u32 ((S 4) : Int), .int .i64 11] rfl ?_
      refine (right_any (S 4) 11 _ HS4B.out (by decide) (by decide)).mono ?_
      rintro e w' ⟨rfl, rfl⟩
      rw [HR11.out]
      refine ⟨_, rfl, hK4 _ _ (Facts.cons_hold kk (Facts.cons_hold km (Facts.nil_hold _))) ?_⟩
      clear hK4 K4
      simp only [Act.put, List.setIfInBounds_toArray, List.set_cons_zero, List.set_cons_succ]
      (refine wpD_plain 5 (v := ?_) rfl (by kernel_rfl) (by kernel_rfl) (by kernel_rfl) (fun _ _ _ h => h) (by rfl) ?_ (by assumption) ?_; rotate_left; (intro _w; go_simp; try with_reducible rfl); simp only [Act.put, List.setIfInBounds_toArray, List.set_cons_zero, List.set_cons_succ])
      refine wpD_only 7 [(21, fun w' => w'.cell? ⟨1, j, none⟩ = some (.int .u32 (kv : Int))), (25, fun w' => w'.cell? ⟨b5, j, none⟩ = some (.int .u32 (mv : Int)))] rfl (by kernel_rfl) (by kernel_rfl) (by rfl) (fun K7 hK7 => ?_)
      refine wp_call _ [_, _] _ rfl _ [] rfl (fun _ _ => by kernel_rfl) [.int .u32 ((S 4) : Int), .int .i64 25] rfl ?_
      refine (right_any (S 4) 25 _ HS4B.out (by decide) (by decide)).mono ?_
      rintro e w' ⟨rfl, rfl⟩
      rw [HR25.out]
      refine ⟨_, rfl, hK7 _ _ (Facts.cons_hold kk (Facts.cons_hold km (Facts.nil_hold _))) ?_⟩
      clear hK7 K7
      simp only [Act.put, List.setIfInBounds_toArray, List.set_cons_zero, List.set_cons_succ]
      (refine wpD_plain 8 (v := ?_) rfl (by kernel_rfl) (by kernel_rfl) (by kernel_rfl) (fun _ _ _ h => h) (by rfl) ?_ (by assumption) ?_; rotate_left; (intro _w; go_simp; try with_reducible rfl); simp only [Act.put, List.setIfInBounds_toArray, List.set_cons_zero, List.set_cons_succ])
      (refine wpD_plain 9 (v := (.int .u32 (((S 7 + E1) % 4294967296 : Nat) : Int))) rfl (by kernel_rfl) (by kernel_rfl) (by kernel_rfl) (fun _ _ _ h => h) (by rfl) ?_ (by assumption) ?_; (intro _w; go_simp; (first | omega | (rw [IntKind.wrap_u32']; omega) | rfl)); simp only [Act.put, List.setIfInBounds_toArray, List.set_cons_zero, List.set_cons_succ])
      (refine wpD_plain 18 (v := (.int .u32 (((S 7 + E1 + C1) % 4294967296 : Nat) : Int))) rfl (by kernel_rfl) (by kernel_rfl) (by kernel_rfl) (fun _ _ _ h => h) (by rfl) ?_ (by assumption) ?_; (intro _w; go_simp; (first | omega | (rw [IntKind.wrap_u32']; omega) | rfl)); simp only [Act.put, List.setIfInBounds_toArray, List.set_cons_zero, List.set_cons_succ])
      (refine wpD_plain 22 (v := (.int .u32 (((S 7 + E1 + C1 + kv) % 4294967296 : Nat) : Int))) rfl (by kernel_rfl) (by kernel_rfl) (by kernel_rfl) (fun _ _ _ h => h) (by rfl) ?_ (by assumption) ?_; (intro _w; go_simp; (first | omega | (rw [IntKind.wrap_u32']; omega) | rfl)); simp only [Act.put, List.setIfInBounds_toArray, List.set_cons_zero, List.set_cons_succ])
      (refine wpD_plain 26 (v := (.int .u32 (X : Int))) rfl (by kernel_rfl) (by kernel_rfl) (by kernel_rfl) (fun _ _ _ h => h) (by rfl) ?_ (by assumption) ?_; (intro _w; go_simp; (have := HX.out; first | omega | (rw [IntKind.wrap_u32']; omega))); simp only [Act.put, List.setIfInBounds_toArray, List.set_cons_zero, List.set_cons_succ])
      (refine wpD_plain 27 (v := ?_) rfl (by kernel_rfl) (by kernel_rfl) (by kernel_rfl) (fun _ _ _ h => h) (by rfl) ?_ (by assumption) ?_; rotate_left; (intro _w; go_simp; try with_reducible rfl); simp only [Act.put, List.setIfInBounds_toArray, List.set_cons_zero, List.set_cons_succ])
      refine wpD_done (by kernel_rfl) ?_ _
      clear hold
      go_wp2_with fail
      refine (right_any (S 0) 2 _ HS0B.out (by decide) (by decide)).mono ?_
      rintro e w' ⟨rfl, rfl⟩
      rw [HR2.out]
      go_wp2_with fail
      refine (right_any (S 0) 13 _ HS0B.out (by decide) (by decide)).mono ?_
      rintro e w' ⟨rfl, rfl⟩
      rw [HR13.out]
      go_wp2_with fail
      refine (right_any (S 0) 22 _ HS0B.out (by decide) (by decide)).mono ?_
      rintro e w' ⟨rfl, rfl⟩
      rw [HR22.out]
      go_wp2_with fail
      have hq := HQ.out
      have hy := HY.out
      go_roundw
      case rel => exact ⟨j + 1, by omega, congrArg (Value.int .u32) (by rw [hq.1]; omega), congrArg (Value.int .u32) (by rw [hq.2.1]), congrArg (Value.int .u32) (by rw [hq.2.2.1]), congrArg (Value.int .u32) (by rw [hq.2.2.2.1]), congrArg (Value.int .u32) (by rw [hq.2.2.2.2.1]; omega), congrArg (Value.int .u32) (by rw [hq.2.2.2.2.2.1]), congrArg (Value.int .u32) (by rw [hq.2.2.2.2.2.2.1]), congrArg (Value.int .u32) (by rw [hq.2.2.2.2.2.2.2]), by go_num, hid ⟨HR.out.1, HR.out.2.1, HR.out.2.2.1, HR.out.2.2.2.1, HR.out.2.2.2.2.drew⟩⟩
      case measure => simp [intOf]; omega
    · obtain rfl : j = 64 := by omega
      obtain ⟨Z, hZ⟩ : ∃ Z, rds M s 64 = Z := ⟨_, rfl⟩
      have HZB := hid (hZ ▸ rds_lt M HS.out 64 : B32 Z)
      have hcp : ∀ i, comp s (mB B) i = (s i + Z i) % 4294967296 := fun i => by rw [HCP.out, hZ]
      have HCZ := hid hcp
      rw [hZ]
      clear hZ hcp HCP
      go_wp2_with (first
        | ((with_reducible show wpList _ _ _ (⟨_, .build 92 _, _, _, _, _⟩ :: _) _ _); refine wpL_build rfl _ [(0, .tmp 100), (1, .tmp 101), (2, .tmp 102), (3, .tmp 103), (4, .tmp 104), (5, .tmp 105), (6, .tmp 106), (7, .tmp 107)] rfl (ba .u32 Z 8) (build8 Z _) ?_)
        | fail)
      have HR2 := hid (show Blk wr b2 92 (bw .u32 (upto 0 (comp s (mB B)) s) 8) ∧ Blk wr b4 92 (bw .u32 (fun _ => 0) 8) ∧ Fr No w wr from by
        rw [upto_zero]
        exact ⟨HR.out.1, HR.out.2.1, HR.out.2.2.2.2⟩)
      clear HR
      go_loopw [109] (fun i wr => ∃ j : Nat, j ≤ 8 ∧ i = .int .i64 j ∧ Hid (Blk wr b2 92 (bw .u32 (upto j (comp s (mB B)) s) 8) ∧ Blk wr b4 92 (bw .u32 (fun _ => 0) 8) ∧ Fr No w wr)) (fun i _ => 8 - (intOf i).toNat)
      case atStart => exact ⟨0, by omega, rfl, HR2⟩
      case round =>
        clear HR2
        obtain ⟨j, hj, rfl, HR⟩ := hrel
        by_cases hlt2 : j < 8
        · have c1 := blk_at HR.out.1 hlt2
          rw [upto_get _ _ (Nat.le_refl j)] at c1
          have hz := index8 Z j hlt2
          have hcz := HCZ.out j
          have b1 := HS.out j
          have b2' := HZB.out j
          obtain ⟨x, hx⟩ : ∃ x, s j = x := ⟨_, rfl⟩
          obtain ⟨z, hz'⟩ : ∃ z, Z j = z := ⟨_, rfl⟩
          rw [hx] at c1 hcz b1
          rw [hz'] at hz hcz b2'
          have HCJ := hid hcz
          have hji : (j : Int) < 8 := by omega
          clear hcz hx hz'
          unfold ba
          go_wp2_with (first
            | ((with_reducible show wpList _ _ _ (⟨_, .store 91 _ _, _, _, _, _⟩ :: _) _ _); refine wpL_put rfl _ _ _ rfl b2 j (comp s (mB B) j) rfl (by rw [HCJ.out]; rfl) _ _ 8 HR.out.1 hlt2 infoW ?_; intro w5 HB5 HF5 HS5)
            | fail)
          have HR' := hid (show Blk w5 b2 92 (bw .u32 (upto (j + 1) (comp s (mB B)) s) 8) ∧ Blk w5 b4 92 (bw .u32 (fun _ => 0) 8) ∧ Fr No w w5 by
            have hn := HN.out
            rw [← upto_set]
            exact ⟨HB5.out, HR.out.2.1.fr HF5.out (by omega), HR.out.2.2.trans HF5.out fun i e => .inr (by have : i = b2 := e; omega)⟩)
          clear HR HB5 HF5 HS5 c1
          go_wp2_with fail
          go_roundw
          case rel => exact ⟨j + 1, by omega, by go_num, HR'⟩
          case measure => simp [intOf]; omega
        · obtain rfl : j = 8 := by omega
          go_wp2_with (first
            | ((with_reducible show wpList _ _ _ (⟨_, .load 92 _, _, _, _, _⟩ :: _) _ _); refine wpL_all rfl _ _ rfl b2 rfl _ (upto 8 (comp s (mB B)) s) 8 _ HR.out.1 rfl rfl info8w ?_)
            | ((with_reducible show wpList _ _ _ (⟨_, .store 92 _ _, _, _, _, _⟩ :: _) _ _); refine wpL_whole rfl _ _ _ rfl b4 (upto 8 (comp s (mB B)) s) 8 rfl rfl _ _ HR.out.2.1 info8w ?_; intro w5 HB5 HF5 HS5)
            | fail)
          have hB5 := HB5.out
          rw [upto_all] at hB5
          refine ret_cell rfl _ rfl hB5 rfl rfl (by simpa using info8w) rfl ?_
          exact ⟨rfl, HR.out.2.2.trans HF5.out fun i e => .inr (by have := HN.out; have : i = b4 := e; omega)⟩
end Go.Proofs.Ytakmeipmngeilaa.SH

set_option linter.unusedVariables false
set_option linter.unusedSimpArgs false
set_option linter.unusedSectionVars false
namespace Go.Proofs.Ytakmeipmngeilaa.SH
set_option maxRecDepth 100000
open Go.RowKit K AR
variable [Tab]

def dg (h : Nat → Nat) : Nat → Nat := fun i => h (i / 4) / 2 ^ (24 - i % 4 * 8) % 256
set_option maxHeartbeats 1000000 in
theorem digest_any (h : Nat → Nat) (w : World) : Calls Try.prog 83 #[ba .u32 h 8] w fun e w' => e = .returned (ba .u8 (dg h) 32) ∧ Fr No w w' := by
  go_enter Try.func83, Try.ntmps83
  go_wp2_with (first
    | ((with_reducible show wpList _ _ _ (⟨_, .box 92 _, _, _, _, _⟩ :: _) _ _); refine wpL_box rfl _ _ rfl (ba .u32 h 8) rfl (bw .u32 h 8) rfl ?_; intro w1 HB1 HF1 HS1)
    | ((with_reducible show wpList _ _ _ (⟨_, .alloc 78, _, _, _, _⟩ :: _) _ _); have := HB2; refine wpL_alloc rfl _ rfl _ zero32b (bw .u8 (fun _ => 0) 32) rfl ?_; intro w3 HB3 HF3 HS3)
    | ((with_reducible show wpList _ _ _ (⟨_, .alloc 78, _, _, _, _⟩ :: _) _ _); refine wpL_alloc rfl _ rfl _ zero32b (bw .u8 (fun _ => 0) 32) rfl ?_; intro w2 HB2 HF2 HS2)
    | fail)
  obtain ⟨b1, hb1⟩ : ∃ b, w.heap.size = b := ⟨_, rfl⟩
  obtain ⟨b2, hb2⟩ : ∃ b, w1.heap.size = b := ⟨_, rfl⟩
  obtain ⟨b3, hb3⟩ : ∃ b, w2.heap.size = b := ⟨_, rfl⟩
  have HR := hid (show Blk w3 b1 92 (bw .u32 h 8) ∧ Blk w3 b2 78 (bw .u8 (fun _ => 0) 32) ∧ Blk w3 b3 78 (bw .u8 (upto 0 (dg h) fun _ => 0) 32) ∧ Fr No w w3 by
    rw [upto_zero, ← hb1, ← hb2, ← hb3]
    exact ⟨(HB1.out.fr HF2.out id).fr HF3.out id, HB2.out.fr HF3.out id, HB3.out, (HF1.out.trans' HF2.out).trans' HF3.out⟩)
  have HN := hid (show w.heap.size = b1 ∧ b1 < b2 ∧ b2 < b3 by have := HS1.out; have := HS2.out; omega)
  rw [hb1, hb2, hb3]
  clear HB1 HF1 HS1 HB2 HF2 HS2 HB3 HF3 HS3 hb1 hb2 hb3 this
  go_wp2_with fail
  go_loopw [5] (fun i wr => ∃ j : Nat, j ≤ 32 ∧ i = .int .i64 j ∧ Hid (Blk wr b1 92 (bw .u32 h 8) ∧ Blk wr b2 78 (bw .u8 (fun _ => 0) 32) ∧ Blk wr b3 78 (bw .u8 (upto j (dg h) fun _ => 0) 32) ∧ Fr No w wr)) (fun i _ => 32 - (intOf i).toNat)
  case atStart => exact ⟨0, by omega, rfl, HR⟩
  case round =>
    clear HR
    obtain ⟨j, hj, rfl, HR⟩ := hrel
    by_cases hlt : j < 32
    · have c1 := blk_at HR.out.1 (i := j / 4) (by omega)
      have hd : dg h j = h (j / 4) / 2 ^ (24 - j % 4 * 8) % 256 := rfl
      obtain ⟨x, hx⟩ : ∃ x, h (j / 4) = x := ⟨_, rfl⟩
      rw [hx] at c1 hd
      obtain ⟨q, hq⟩ : ∃ q, j / 4 = q := ⟨_, rfl⟩
      have hq2 : (j : Int) / 4 = (q : Int) := by omega
      have hq3 : (q : Int) < 8 := by omega
      obtain ⟨r, hr⟩ : ∃ r, 24 - j % 4 * 8 = r := ⟨_, rfl⟩
      have hr2 : (24 : Int) - 8 * ((j : Int) % 4) = (r : Int) := by omega
      have hr3 : (r : Int) ≤ 24 := by omega
      rw [hq] at c1
      rw [hr] at hd
      have hv : ((x : Int) / 2 ^ r % 256) = ((dg h j : Nat) : Int) := by rw [hd]; simp
      have HV := hid hv
      clear hv hd hx hq hr
      go_wp2_with (first
        | ((with_reducible show wpList _ _ _ (⟨_, .store 5 _ _, _, _, _, _⟩ :: _) _ _); refine wpL_put rfl _ _ _ rfl b3 j (dg h j) rfl (by first | exact congrArg (Value.int .u8) HV.out | rfl) _ _ 32 HR.out.2.2.1 hlt infoU8 ?_; intro w5 HB5 HF5 HS5)
        | fail)
      have HR' := hid (show Blk w5 b1 92 (bw .u32 h 8) ∧ Blk w5 b2 78 (bw .u8 (fun _ => 0) 32) ∧ Blk w5 b3 78 (bw .u8 (upto (j + 1) (dg h) fun _ => 0) 32) ∧ Fr No w w5 by
        have hn := HN.out
        rw [← upto_set]
        exact ⟨HR.out.1.fr HF5.out (by omega), HR.out.2.1.fr HF5.out (by omega), HB5.out, HR.out.2.2.2.trans HF5.out fun i e => .inr (by have : i = b3 := e; omega)⟩)
      clear HR HB5 HF5 HS5 c1
      go_wp2_with fail
      go_roundw
      case rel => exact ⟨j + 1, by omega, by go_num, HR'⟩
      case measure => simp [intOf]; omega
    · obtain rfl : j = 32 := by omega
      go_wp2_with (first
        | ((with_reducible show wpList _ _ _ (⟨_, .load 78 _, _, _, _, _⟩ :: _) _ _); refine wpL_all rfl _ _ rfl b3 rfl _ (upto 32 (dg h) fun _ => 0) 32 _ HR.out.2.2.1 rfl rfl info32b ?_)
        | ((with_reducible show wpList _ _ _ (⟨_, .store 78 _ _, _, _, _, _⟩ :: _) _ _); refine wpL_whole rfl _ _ _ rfl b2 (upto 32 (dg h) fun _ => 0) 32 rfl rfl _ _ HR.out.2.1 info32b ?_; intro w5 HB5 HF5 HS5)
        | fail)
      have hB5 := HB5.out
      rw [upto_all] at hB5
      refine ret_cell rfl _ rfl hB5 rfl rfl (by simpa using info32b) rfl ?_
      exact ⟨rfl, HR.out.2.2.2.trans HF5.out fun i e => .inr (by have := HN.out; have : i = b2 := e; omega)⟩
end Go.Proofs.Ytakmeipmngeilaa.SH

set_option linter.unusedVariables false
set_option linter.unusedSimpArgs false
set_option linter.unusedSectionVars false
namespace Go.Proofs.Ytakmeipmngeilaa.SH
set_option maxRecDepth 100000
open Go.RowKit K AR
variable [Tab]

/-- The first k numbers below N. -/
def fins (N : Nat) : (k : Nat) → k ≤ N → List (Fin N)
  | 0, _ => []
  | k + 1, h => fins N k (Nat.le_of_succ_le h) ++ [⟨k, h⟩]
theorem fins_length (N : Nat) : ∀ (k : Nat) (h : k ≤ N), (fins N k h).length = k
  | 0, _ => rfl
  | k + 1, h => by simp [fins, fins_length N k]
/-- Where block k lies. -/
def blkAt (g o c : Nat) (k : Nat) : Array Value := #[.slice (some ⟨g, o + 64 * k, none⟩) 64 (c - 64 * k)]
set_option maxHeartbeats 2000000 in
theorem blocks1_in (F : Fence) (n : Nat) (hf : F.fn 88) (hro : F.round = none) (hn : 1 ≤ n) (l bx g o len c N : Nat) (hN : len = 64 * N + len % 64) (hlen : len ≤ 140737488355328) (hc : len ≤ c) (J Jx : List (Fin N) → World → Prop)
    (hY : ∀ (pre : List (Fin N)) (x : Fin N) (W : World), J pre W → pre.length < N → YieldAt F (n - 1) Try.prog l (blkAt g o c x) W fun e W' =>
      (e = .returned (.bool true) ∧ J (pre ++ [x]) W' ∧ Kx bx W W') ∨ (e = .returned (.bool false) ∧ Jx (pre ++ [x]) W'))
    (W : World) (hbx : W.cell? ⟨bx, 0, none⟩ = some (.slice (some ⟨g, o, none⟩) len c)) (h0 : J [] W) :
    CallsIn F n Try.prog 88 #[.func (.yield l) #[] #[], .pointer (some ⟨bx, 0, none⟩)] W fun e W' => (∃ v, e = .returned v) ∧
      ((∃ xs, xs = fins N N (Nat.le_refl N) ∧ J xs W') ∨ (∃ pre, True ∧ Jx pre W')) := by
  refine callsIn_of_wp Try.func88 rfl hf ?_ hro
  simp only [Try.ntmps88, List.size_toArray, List.length_cons, List.length_nil, Nat.reduceAdd, Nat.reduceSub, Array.replicate_succ, Array.replicate_zero, List.push_toArray, List.append_toArray, List.nil_append, List.cons_append]
  have HN := hid hN
  clear hN
  have hli : (len : Int) ≤ 140737488355328 := by omega
  have hci : (len : Int) ≤ (c : Int) := by omega
  gi_wp2
  gi_loopw [3] (fun i wr => ∃ (k : Nat) (hk : k ≤ N), i = .int .i64 ((64 * k + 64 : Nat) : Int) ∧ J (fins N k hk) wr ∧ wr.cell? ⟨bx, 0, none⟩ = some (.slice (some ⟨g, o, none⟩) len c))
    (fun i _ => len + 64 - (intOf i).toNat)
  case atStart => exact ⟨0, Nat.zero_le _, rfl, h0, hbx⟩
  case round =>
    obtain ⟨k, hk, rfl, hJs, hcx⟩ := hrel
    by_cases hlt : k < N
    · obtain ⟨fn, tmps, assign, body, hy, hR⟩ := hY _ ⟨k, hlt⟩ wr hJs (by rw [fins_length]; exact hlt)
      simp only [blkAt] at hy
      obtain ⟨A, hA⟩ : ∃ A, 64 * k = A := ⟨_, rfl⟩
      obtain ⟨E, hE⟩ : ∃ E, A + 64 = E := ⟨_, rfl⟩
      rw [hA] at hy ⊢
      rw [hE]
      have HA := hid hA; have HE := hid hE
      have hEA : (E : Int) - 64 = (A : Int) := by omega
      have hEl : (E : Int) ≤ (len : Int) := by have := HN.out; omega
      have hAE : (A : Int) ≤ (E : Int) := by omega
      have H64 := hid (show E - A = 64 by omega)
      clear hA hE
      rw [← H64.out] at hy
      gi_wp2
      refine hR.mono ?_
      rintro e W3 (⟨rfl, hJ3, hk3⟩ | ⟨rfl, hJx3⟩)
      · have hcx3 : W3.cell? ⟨bx, 0, none⟩ = some (.slice (some ⟨g, o, none⟩) len c) := (World.cell?_of_block (a := ⟨bx, 0, none⟩) (show W3.heap[bx]? = wr.heap[bx]? from hk3)).trans hcx
        gi_wp2
        go_roundw
        case rel => exact ⟨k + 1, hlt, by have := HA.out; have := HE.out; first | (go_num; done) | (go_num; omega), hJ3, hcx3⟩
        case measure => simp [intOf]; omega
      · gi_wp2
        refine bodyPost_ret (results_none rfl _ _ _) rfl ?_
        exact ⟨⟨_, rfl⟩, .inr ⟨_, trivial, hJx3⟩⟩
    · obtain rfl : k = N := by omega
      have hge : ¬ ((64 * k + 64 : Nat) : Int) ≤ (len : Int) := by have := HN.out; omega
      obtain ⟨E, hE⟩ : ∃ E, 64 * k + 64 = E := ⟨_, rfl⟩
      rw [hE] at hge ⊢
      clear hE hlt
      gi_wp2
      go_end0
      exact ⟨⟨_, rfl⟩, .inl hJs⟩
/-- The slice lies in a box of its own; the function knows where. -/
theorem blocks_any (a : Option Addr) (len c : Nat) (w : World) : Calls Try.prog 80 #[.slice a len c] w fun e w' =>
    e = .returned (.func (.func 88) #[] #[.pointer (some ⟨w.heap.size, 0, none⟩)]) ∧ w'.cell? ⟨w.heap.size, 0, none⟩ = some (.slice a len c) ∧ Fr No w w' ∧ w'.heap.size = w.heap.size + 1 := by
  go_enter Try.func80, Try.ntmps80
  go_wp2_with (first
    | ((with_reducible show wpList _ _ _ (⟨_, .box 38 _, _, _, _, _⟩ :: _) _ _); refine wpL_box rfl _ _ rfl (.slice a len c) rfl [.slice a len c] rfl ?_; intro w1 HB1 HF1 HS1)
    | fail)
  go_ret
  exact ⟨rfl, HB1.out.cell 0, HF1.out, HS1.out⟩
/-- The blocks come one behind the other; each round leaves the box alone. -/
theorem blocks_stops (bx g o len c N : Nat) (hN : len = 64 * N + len % 64) (hlen : len ≤ 140737488355328) (hc : len ≤ c) (w : World) (hb : bx < w.heap.size) (hbx : w.cell? ⟨bx, 0, none⟩ = some (.slice (some ⟨g, o, none⟩) len c)) :
    SeqStopsK Fence.wide 2 Try.prog 88 #[.pointer (some ⟨bx, 0, none⟩)] (fun x : Fin N => blkAt g o c x) (Kx bx) (fun xs => xs = fins N N (Nat.le_refl N)) (fun _ => True) N w := fun l J Jx W hW _ _ hY h0 =>
  blocks1_in Fence.wide 2 trivial rfl (by decide) l bx g o len c N hN hlen hc J Jx hY W ((hW.cell (p := ⟨bx, 0, none⟩) hb).trans hbx) h0
end Go.Proofs.Ytakmeipmngeilaa.SH

set_option linter.unusedVariables false
set_option linter.unusedSimpArgs false
namespace Go.Proofs.Ytakmeipmngeilaa.K
set_option maxRecDepth 100000
open Go.RowKit

section
variable {ops : Array Oper} {rest : List Oper} {op : Oper} {a : Act} {w : World} {Q : Exit → Act → World → Prop}
theorem run_app_new (ty : TypeId) (w0 : World) (h0 : Fr No w0 w) (b : Addr) (n cap : Nat) (olds : List UInt8) (hlo : olds.length = n) (holds : ∀ j v, (u8s olds)[j]? = some v → w.cell? (b.add j) = some v)
    (ad : Addr) (m c : Nat) (news : List UInt8) (hl : news.length = m) (hnews : ∀ j v, (u8s news)[j]? = some v → w.cell? (ad.add j) = some v) (hg : cap < n + m) (hb : n + m ≤ 140737488355328) :
    ∃ c' w', (Builtin.append_ #[38, 38] ty #[.slice (some b) n cap, .slice (some ad) m c]).run Try.prog w = .ok (.slice (some ⟨w.heap.size, 0, none⟩) (n + m) c') w' ∧
      OwB w0 w' (.slice (some ⟨w.heap.size, 0, none⟩) (n + m) c') (olds ++ news) ∧ Fr No w w' := by
  obtain ⟨i, hi, hz, hs, hbb⟩ := Go.info_parts infoB
  have hr := run_append_grow (P := Try.prog) w 38 ty 5 i (.int .u8 0) Try.underlying38 hi hz b n cap (u8s olds) (by rw [u8s_length, hs, hlo, Nat.mul_one]) holds ad m c (u8s news) (by rw [u8s_length, hs, hl, Nat.mul_one]) hnews hg (by omega)
    (growslice_fits hg (by rw [hbb]; omega))
  refine ⟨_, _, hr, ?_, ?_⟩
  · have hge := grownCap_ge w (n + m) cap 5
    have hcm : grownCap w (n + m) cap 5 ≤ maxLen := grownCap_le_maxLen w (n + m) cap 5 (by unfold maxLen; omega)
    refine ⟨⟨_, _, by rw [List.length_append, hlo, hl]⟩, ?_, ?_⟩
    · have hlen : (olds ++ news).length = n + m := by rw [List.length_append, hlo, hl]
      refine ⟨by simp [u8s_length], .inr ⟨w.heap.size, _, _, by rw [hlen], h0.size, heap_alloc_new w.drew _, by rw [hlen]; exact hge, hcm, ?_, ?_⟩⟩
      · simp only [Array.size_append, List.size_toArray, size_zeroCells, u8s_length, hlo, hl]
        simp [Value.cells]
        omega
      · rw [hlen, u8s_append]
        simp only [Array.toList_append, List.append_assoc]
        rw [← List.append_assoc, show (n + m) * 1 = (u8s olds ++ u8s news).length by simp [u8s_length, hlo, hl]]
        exact List.take_left
    · exact h0.trans' (((Fr.refl No w).drew).alloc _)
  · exact ((Fr.refl No w).drew).alloc _
/-- Something is appended where there is no room. -/
theorem wpL_appNew (hgd : op.guard = none) (s x : Operand) (ho : op.op = .call { callee := .builtin .append, args := #[s, x], argTypes := #[38, 38] }) {w0 : World} (h0 : Fr No w0 w) (b : Addr) (n cap : Nat) (hs : a.eval s = .slice (some b) n cap)
    (olds : List UInt8) (hlo : olds.length = n) (holds : ∀ j v, (u8s olds)[j]? = some v → w.cell? (b.add j) = some v)
    (sp : Option Addr) (m c : Nat) (news : List UInt8) (hx : a.eval x = .slice sp m c) (hl : news.length = m) (hsrc : m = 0 ∨ ∃ ad, sp = some ad ∧ ∀ (j : Nat) (u : Value), (u8s news)[j]? = some u → w.cell? (ad.add j) = some u)
    (hg : cap < n + m) (hle : n ≤ cap) (k : Nat) (hk : n + m = k) (r : List UInt8) (hr : olds ++ news = r) (hb : k ≤ 140737488355328)
    (h : ∀ c' w', Hid (OwB w0 w' (.slice (some ⟨w.heap.size, 0, none⟩) k c') r) → Hid (Fr No w w') → wpList Try.prog ops Q rest (a.put op.dst (.slice (some ⟨w.heap.size, 0, none⟩) k c')) w') : wpList Try.prog ops Q (op :: rest) a w := by
  subst hk; subst hr
  obtain ⟨ad, rfl, hsrc1⟩ := hsrc.resolve_left (by omega)
  refine wpList_plain hgd fun K hK => ?_
  obtain ⟨c', w', hr, h2, h3⟩ := run_app_new (w := w) op.type w0 h0 b n cap olds hlo holds ad m c news hl hsrc1 hg hb
  unfold Oper.wp execOp
  simp only [ho, resolve, invoke, builtin, Sem.run_bind, Sem.run_pure, Result.andThen_ok, List.map_toArray, List.map_cons, List.map_nil, hs, hx, hr]
  exact hK _ _ (h c' w' (hid h2) (hid h3))
/-- Nothing is appended. -/
theorem wpL_appNone (hgd : op.guard = none) (s x : Operand) (ho : op.op = .call { callee := .builtin .append, args := #[s, x], argTypes := #[38, 38] }) (b : Option Addr) (n cap : Nat) (hs : a.eval s = .slice b n cap) (hle : n ≤ cap)
    (sp : Option Addr) (c : Nat) (hx : a.eval x = .slice sp 0 c) (h : wpList Try.prog ops Q rest (a.put op.dst (.slice b n cap)) w) : wpList Try.prog ops Q (op :: rest) a w := by
  refine wpList_plain hgd fun K hK => ?_
  obtain ⟨i, hi, hz, hss, hbb⟩ := Go.info_parts infoB
  have hr : (Builtin.append_ #[38, 38] op.type #[.slice b n cap, .slice sp 0 c]).run Try.prog w = .ok (.slice b n cap) w := by
    have hf : (Builtin.firstCells i.size 0 (.slice sp 0 c)).run Try.prog w = .ok #[] w := by
      cases sp <;> simp [Builtin.firstCells, loadCells, loadCellsFrom]
    cases b <;> simp [Builtin.append_, run_underlying Try.underlying38, sizeOf, typeInfo, hi, Builtin.lenOf, hf, Result.andThen, hle, storeCells]
  unfold Oper.wp execOp
  simp only [ho, resolve, invoke, builtin, Sem.run_bind, Sem.run_pure, Result.andThen_ok, List.map_toArray, List.map_cons, List.map_nil, hs, hx, hr]
  exact hK _ _ h
/-- An append to a slice without room, of anything or nothing. -/
theorem wpL_appFull (hgd : op.guard = none) (s x : Operand) (ho : op.op = .call { callee := .builtin .append, args := #[s, x], argTypes := #[38, 38] }) (b o n : Nat) (hs : a.eval s = .slice (some ⟨b, o, none⟩) n n) (hbw : b < w.heap.size)
    (olds : List UInt8) (hlo : olds.length = n) (holds : w.rangeAt b o (u8s olds))
    (sp : Option Addr) (m c : Nat) (news : List UInt8) (hx : a.eval x = .slice sp m c) (hl : news.length = m) (hsrc : m = 0 ∨ ∃ ad, sp = some ad ∧ ∀ (j : Nat) (u : Value), (u8s news)[j]? = some u → w.cell? (ad.add j) = some u)
    (k : Nat) (hk : n + m = k) (r : List UInt8) (hr : olds ++ news = r) (hb : k ≤ 140737488355328)
    (h : ∀ g' o' c' w', Hid (w'.rangeAt g' o' (u8s r)) → Hid (Fr No w w') → Hid (k ≤ c' ∧ g' < w'.heap.size ∧ (m = 0 ∨ g' = w.heap.size)) → wpList Try.prog ops Q rest (a.put op.dst (.slice (some ⟨g', o', none⟩) k c')) w') : wpList Try.prog ops Q (op :: rest) a w := by
  by_cases hm : m = 0
  · subst hm
    obtain rfl : news = [] := List.eq_nil_of_length_eq_zero hl
    rw [Nat.add_zero] at hk
    subst hk
    rw [List.append_nil] at hr
    subst hr
    exact wpL_appNone hgd s x ho _ n n hs (Nat.le_refl _) sp c hx (h b o n w (hid holds) (hid (Fr.refl _ _)) (hid ⟨Nat.le_refl _, hbw, .inl rfl⟩))
  · refine wpL_appNew hgd s x ho (w0 := w) (Fr.refl _ _) ⟨b, o, none⟩ n n hs olds hlo (range_loads holds) sp m c news hx hl hsrc (by omega) (Nat.le_refl _) k hk r hr hb fun c' w' h1 h2 => ?_
    have hrl : r.length = k := by rw [← hr, List.length_append, hlo, hl]; exact hk
    obtain ⟨a1, l1, c1, e1, e2, e3, e4⟩ := h1.out.bytes
    simp only [Value.slice.injEq] at e1
    obtain ⟨rfl, rfl, rfl⟩ := e1
    obtain ⟨g, go, e5, e6, e7, e8⟩ := e4.resolve_left (by omega)
    cases e5
    exact h _ _ _ _ (hid e8) h2 (hid ⟨e3, e7, .inr rfl⟩)
end
end Go.Proofs.Ytakmeipmngeilaa.K

set_option linter.unusedVariables false
set_option linter.unusedSimpArgs false
set_option linter.unusedSectionVars false
namespace Go.Proofs.Ytakmeipmngeilaa.SH
set_option maxRecDepth 100000
open Go.RowKit K AR
variable [Tab]

theorem buildE (w : World) : (Instr.buildSlice 38 0 #[]).run Try.prog w = .ok (.slice (some ⟨w.heap.size, 0, none⟩) 0 0) (w.alloc (.cells #[] 5)) := by kernel_rfl
theorem build1 (x : Int) (w : World) : (Instr.buildSlice 38 1 #[(0, .int .u8 x)]).run Try.prog w = .ok (.slice (some ⟨w.heap.size, 0, none⟩) 1 1) (w.alloc (.cells #[.int .u8 x] 5)) := by kernel_rfl
/-- The bytes with n noughts behind the mark. -/
def padn (l : List UInt8) (n : Nat) : List UInt8 := l ++ [128] ++ List.replicate n 0
theorem padn_length (l : List UInt8) (n : Nat) : (padn l n).length = l.length + 1 + n := by simp [padn]; omega
theorem padn_next (l : List UInt8) (n : Nat) : padn l n ++ [0] = padn l (n + 1) := by
  unfold padn
  rw [List.append_assoc, List.replicate_succ', List.append_assoc]
/-- And m bytes of the length. -/
def padm (l : List UInt8) (m : Nat) : List UInt8 := padn l (padz l.length) ++ (List.range m).map (be8 (l.length * 8))
theorem padm_length (l : List UInt8) (m : Nat) : (padm l m).length = l.length + 1 + padz l.length + m := by simp [padm, padn_length]
theorem padm_next (l : List UInt8) (m : Nat) : padm l m ++ [be8 (l.length * 8) m] = padm l (m + 1) := by
  unfold padm
  rw [List.append_assoc, List.range_succ, List.map_append]
  rfl
theorem padm_eight (l : List UInt8) : padm l 8 = pad l := rfl

end Go.Proofs.Ytakmeipmngeilaa.SH

set_option linter.unusedVariables false
set_option linter.unusedSimpArgs false
set_option linter.unusedSectionVars false
namespace Go.Proofs.Ytakmeipmngeilaa.SH
set_option maxRecDepth 100000
open Go.RowKit K AR
variable [Tab]

/-! ### Data -/
theorem wS_cg {m m' : Nat → Nat} (h : ∀ i, i < 16 → m i = m' i) : ∀ (n j : Nat), j < n + 16 → wS m n j = wS m' n j
  | 0, j, hj => h j hj
  | n + 1, j, hj => by
    by_cases e : j = n + 16
    · subst e
      rw [wS_new, wS_new, wS_cg h n n (by omega), wS_cg h n (n + 9) (by omega), wS_cg h n (n + 1) (by omega), wS_cg h n (n + 14) (by omega)]
    · rw [wS_low m n (by omega), wS_low m' n (by omega)]
      exact wS_cg h n j (by omega)
theorem rds_cg {w w' : Nat → Nat} (s : Nat → Nat) (h : ∀ i, i < 64 → w i = w' i) : ∀ n, n ≤ 64 → rds w s n = rds w' s n
  | 0, _ => rfl
  | n + 1, hn => by
    show rd (kc n) (w n) (rds w s n) = rd (kc n) (w' n) (rds w' s n)
    rw [h n (by omega), rds_cg s h n (by omega)]
theorem comp_cg (s : Nat → Nat) {m m' : Nat → Nat} (h : ∀ i, i < 16 → m i = m' i) : comp s m = comp s m' := by
  funext i
  rw [comp_def, comp_def, rds_cg s (fun i hi => wS_cg h 48 i (by omega)) 64 (Nat.le_refl _)]
theorem word_congr {l l' : List UInt8} {p q : Nat} (h : ∀ i, i < 4 → l.getD (p + i) 0 = l'.getD (q + i) 0) : word l p = word l' q := by
  unfold word
  have h0 := h 0 (by decide); have h1 := h 1 (by decide); have h2 := h 2 (by decide); have h3 := h 3 (by decide)
  rw [Nat.add_zero, Nat.add_zero] at h0
  rw [h0, h1, h2, h3]
/-- The state hangs on the bytes of the blocks alone. -/
theorem hs_congr {l l' : List UInt8} : ∀ n, (∀ i, i < 64 * n → l.getD i 0 = l'.getD i 0) → hs l n = hs l' n
  | 0, _ => rfl
  | n + 1, h => by
    show comp (hs l n) _ = comp (hs l' n) _
    rw [hs_congr n fun i hi => h i (by omega)]
    refine comp_cg _ fun i hi => word_congr (p := 64 * n + 4 * i) (q := 64 * n + 4 * i) fun j hj => h _ (by omega)
theorem getD_append (l b : List UInt8) {i : Nat} (h : i < l.length) : (l ++ b).getD i 0 = l.getD i 0 := by
  rw [List.getD_eq_getElem?_getD, List.getD_eq_getElem?_getD, List.getElem?_append_left h]
theorem getD_drop (l : List UInt8) (m i : Nat) : (l.drop m).getD i 0 = l.getD (m + i) 0 := by
  rw [List.getD_eq_getElem?_getD, List.getD_eq_getElem?_getD, List.getElem?_drop]
/-- How many whole blocks; and what waits behind them. -/
def q64 (l : List UInt8) : Nat := 64 * (l.length / 64)
def tail (l : List UInt8) : List UInt8 := l.drop (q64 l)
theorem q64_le (l : List UInt8) : q64 l ≤ l.length := by unfold q64; omega
theorem tail_length (l : List UInt8) : (tail l).length = l.length % 64 := by unfold tail q64; rw [List.length_drop]; omega
theorem tail_append (l b : List UInt8) : tail l ++ b = (l ++ b).drop (q64 l) := by
  unfold tail
  rw [List.drop_append_of_le_length (q64_le l)]
theorem hs_append (l b : List UInt8) : hs (l ++ b) (l.length / 64) = hs l (l.length / 64) :=
  hs_congr _ fun i hi => getD_append l b (by omega)
def byt (l : List UInt8) (k : Nat) : Nat → Nat := fun i => (l.getD (64 * k + i) 0).toNat
theorem byt_lt (l : List UInt8) (k : Nat) : B8 (byt l k) := fun _ => UInt8.toNat_lt _
theorem mB_byt (l : List UInt8) (k : Nat) : mB (byt l k) = fun i => word l (64 * k + 4 * i) := by
  funext i
  rfl
/-- The state behind k blocks more. -/
theorem hs_more (L t : List UInt8) (q : Nat) (ht : L.drop (64 * q) = t) (k : Nat) : hs L (q + k + 1) = comp (hs L (q + k)) (mB (byt t k)) := by
  rw [mB_byt]
  show comp _ _ = _
  refine comp_cg _ fun i hi => word_congr fun j hj => ?_
  rw [← ht, getD_drop]
  congr 1
  omega

/-! ### Memory -/
def hcells (l : List UInt8) (f : Nat → Nat) : List Value := bw .u32 (hs l (l.length / 64)) 8 ++ (bw .u8 f 64 ++ [.int .u64 (l.length : Int)])
theorem hcells_length (l : List UInt8) (f : Nat → Nat) : (hcells l f).length = 73 := by simp [hcells]
/-- To the hash in block b the bytes l were written. -/
def HashAt (w : World) (b : Nat) (l : List UInt8) : Prop :=
  ∃ f, Blk w b 128 (hcells l f) ∧ B8 f ∧ ∀ i, i < l.length % 64 → f i = ((tail l).getD i 0).toNat
theorem HashAt.fr {D : Nat → Prop} {w w' : World} {b : Nat} {l : List UInt8} (h : HashAt w b l) (hf : Fr D w w') (hn : ¬ D b) : HashAt w' b l := by
  obtain ⟨f, h1, h2, h3⟩ := h
  exact ⟨f, h1.fr hf hn, h2, h3⟩
theorem HashAt.lt {w : World} {b : Nat} {l : List UInt8} (h : HashAt w b l) : b < w.heap.size := by
  obtain ⟨f, h1, _⟩ := h
  exact h1.lt
theorem hc_state (l : List UInt8) (f : Nat → Nat) : ((hcells l f).drop 0).take 8 = bw .u32 (hs l (l.length / 64)) 8 := by
  unfold hcells
  rw [List.drop_zero]
  exact List.take_left' (by simp)
theorem hc_last (l : List UInt8) (f : Nat → Nat) : ((hcells l f).drop 8).take 64 = bw .u8 f 64 := by
  unfold hcells
  rw [List.drop_left' (by simp)]
  exact List.take_left' (by simp)
theorem hc_len (l : List UInt8) (f : Nat → Nat) : (hcells l f)[72]? = some (.int .u64 (l.length : Int)) := by
  unfold hcells
  rw [List.getElem?_append_right (by simp), List.getElem?_append_right (by simp)]
  simp
theorem hc_byte (l : List UInt8) (f : Nat → Nat) {i : Nat} (h : i < 64) : (hcells l f)[8 + i]? = some (.int .u8 (f i : Int)) := by
  unfold hcells
  rw [List.getElem?_append_right (by simp), List.getElem?_append_left (by simp; omega)]
  simp [bw, h]
/-- The bytes that wait lie in the hash. -/
theorem hash_tail {w : World} {b : Nat} {l : List UInt8} {f : Nat → Nat} (h : Blk w b 128 (hcells l f)) (hf : ∀ i, i < l.length % 64 → f i = ((tail l).getD i 0).toNat) : w.rangeAt b 8 (u8s (tail l)) := by
  intro j v hj
  have hl : j < (tail l).length := by
    have := (List.getElem?_eq_some_iff.1 hj).1
    rwa [u8s_length] at this
  rw [u8s_get _ j hl] at hj
  rw [h.cell, ← hj]
  rw [tail_length] at hl
  rw [hc_byte l f (by omega), hf j hl]
  simp [List.getD, tail_length, hl]
theorem infoHash : (Try.prog.info? 128).map (·.size) = some 73 := by kernel_rfl
theorem buildHash (w : World) : (Instr.build 128 #[(0, ba .u32 h0 8)]).run Try.prog w = .ok (.agg (hcells [] fun _ => 0).toArray) w := by kernel_rfl
/-- New. -/
theorem new_any (w : World) (hg : Gl w) : Calls Try.prog 70 #[] w fun e w' => e = .returned (.pointer (some ⟨w.heap.size, 0, none⟩)) ∧ HashAt w' w.heap.size [] ∧ Fr No w w' := by
  have HG := hid hg; clear hg
  go_enter Try.func70, Try.ntmps70
  go_wp2_with (first
    | ((with_reducible show wpList _ _ _ (⟨_, .load 92 _, _, _, _, _⟩ :: _) _ _); refine wpL_load rfl _ _ rfl 0 0 rfl (bw .u32 h0 8) _ HG.out.1 Try.underlying92 rfl (by simpa using info8w) ?_)
    | ((with_reducible show wpList _ _ _ (⟨_, .build 128 _, _, _, _, _⟩ :: _) _ _); refine wpL_build rfl _ [(0, .tmp 1)] rfl (.agg (hcells [] fun _ => 0).toArray) (buildHash _) ?_)
    | ((with_reducible show wpList _ _ _ (⟨_, .box 128 _, _, _, _, _⟩ :: _) _ _); refine wpL_box rfl _ _ rfl (.agg (hcells [] fun _ => 0).toArray) rfl (hcells [] fun _ => 0) rfl ?_; intro w1 HB1 HF1 HS1)
    | fail)
  go_ret
  exact ⟨rfl, ⟨_, HB1.out, fun _ => Nat.zero_lt_succ _, fun i hi => absurd hi (by simp)⟩, HF1.out⟩
/-- The bytes that wait. -/
theorem waits_any (b : Nat) (l : List UInt8) (w : World) (h : HashAt w b l) (hl : l.length ≤ 281474976710656) : Calls Try.prog 79 #[.pointer (some ⟨b, 0, none⟩)] w fun e w' =>
    e = .returned (.slice (some ⟨b, 8, none⟩) (l.length % 64) (l.length % 64)) ∧ w' = w := by
  obtain ⟨f, hB, -, -⟩ := h
  have c72 : w.cell? ⟨b, 72, none⟩ = some (.int .u64 (l.length : Int)) := by rw [hB.cell]; exact hc_len l f
  obtain ⟨L, hL⟩ : ∃ L, l.length = L := ⟨_, rfl⟩
  rw [hL] at c72 hl ⊢
  have hli : (L : Int) ≤ 281474976710656 := by omega
  obtain ⟨r, hr⟩ : ∃ r, L % 64 = r := ⟨_, rfl⟩
  have hri : (L : Int) % 64 = (r : Int) := by omega
  have hr64 : (r : Int) ≤ 64 := by omega
  have hr64n : r ≤ 64 := by omega
  rw [hr]
  clear hr hB hL
  go_enter Try.func79, Try.ntmps79
  go_wp2_with fail
  go_ret
  exact ⟨rfl, rfl⟩
end Go.Proofs.Ytakmeipmngeilaa.SH
