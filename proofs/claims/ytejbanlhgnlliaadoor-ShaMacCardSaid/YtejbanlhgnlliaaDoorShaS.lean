/-
  The document's sha: Sum.
-/
import Derived.Test.YtejbanlhgnlliaaDoorShaQ
namespace Go.Proofs.YtejbanlhgnlliaaDoor.SH
set_option maxRecDepth 100000
open Go.RowKit K AR

theorem at_own {w0 w : World} {v : Value} {l : List UInt8} (h : OwB w0 w v l) (hl : 0 < l.length) : ∃ g c, v = .slice (some ⟨g, 0, none⟩) l.length c ∧ w0.heap.size ≤ g ∧ ∀ i (hi : i < l.length), w.cell? ⟨g, i, none⟩ = some (.int .u8 (l[i].toNat : Int)) := by
  obtain ⟨a, c, rfl⟩ := h.1
  rcases own_form h.2.1 with ⟨a', cap, e, _, h0⟩
  obtain ⟨g, rfl⟩ := h0 hl
  simp only [Value.slice.injEq] at e
  obtain ⟨rfl, _, rfl⟩ := e
  refine ⟨g, c, rfl, h.ge g rfl, fun i hi => (own_at h.2.1 i _ (u8s_get l i hi)).1⟩
theorem getD_at (l : List UInt8) {i : Nat} (h : i < l.length) : l.getD i 0 = l[i] := by simp [List.getD, h]
def mw (l : List UInt8) (n : Nat) : Nat → Nat := fun i => word l (64 * n + 4 * i)
theorem mw_lt (l : List UInt8) (n : Nat) : B32 (mw l n) := fun i => word_lt l _
theorem upto_w (m : Nat → Nat) (j : Nat) : AR.upd (upto (16 + j) (wS m j) fun _ => 0) (16 + j) (wS m (j + 1) (j + 16)) = upto (16 + (j + 1)) (wS m (j + 1)) fun _ => 0 := by
  funext i
  unfold AR.upd AR.upto
  by_cases h : i = 16 + j
  · subst h; rw [if_pos rfl, if_pos (by omega), show j + 16 = 16 + j by omega]
  · rw [if_neg h]
    by_cases h2 : i < 16 + j
    · rw [if_pos h2, if_pos (by omega), wS_low m j (by omega)]
    · rw [if_neg h2, if_neg (by omega)]
/-- The bytes lie in block g. -/
def Src (w : World) (g : Nat) (l : List UInt8) : Prop := ∀ i (hi : i < l.length), w.cell? ⟨g, i, none⟩ = some (.int .u8 (l[i].toNat : Int))
theorem Src.fr {D : Nat → Prop} {w w' : World} {g : Nat} {l : List UInt8} (h : Src w g l) (hf : Fr D w w') (hn : ¬ D g) : Src w' g l := fun i hi => hf.cell (h i hi) hn
set_option maxHeartbeats 16000000 in
theorem rsum_any (l : List UInt8) (v : Value) (w : World) {E : Nat → Prop} (hb : BytesIn w E v l) (hl : l.length ≤ 140737488355200) : Calls Tryd.prog 9 #[v] w fun e w' =>
    e = .returned (ba .u8 (dig l) 32) ∧ Fr No w w' := by
  have HB := hid hb; have HL := hid hl
  obtain ⟨av, lv, cv, rfl, -, -, -⟩ := hb
  clear hl
  go_enter Tryd.func9, Tryd.ntmps9
  go_wp2_with (first
    | ((with_reducible show wpList _ _ _ ({ dst := _, op := .alloc 24, type := _, pos := _, after := _, guard := _ } :: _) _ _); refine wpL_alloc rfl _ rfl _ zero32b (bw .u8 (fun _ => 0) 32) rfl ?_; intro w1 HB1 HF1 HS1))
  refine (padded_any l _ _ (HB.out.no HF1.out) HL.out).mono ?_
  rintro e w2 ⟨vp, rfl, hP⟩
  have HP := hid hP; have HB2 := hid (HB1.out.fr hP.fr id); have HF2 := hid (HF1.out.trans' hP.fr)
  have hlp := pad_length l
  have hpz := padz_lt l.length
  have hpb := pad_blocks l
  obtain ⟨p, hp⟩ : ∃ p, pad l = p := ⟨_, rfl⟩
  rw [hp] at HP hlp hpb
  have HPL := hid hp
  have hl0 : 0 < p.length := by omega
  have hlb : p.length ≤ 140737488355328 := by have := HL.out; omega
  have hlbi : (p.length : Int) ≤ 140737488355328 := by omega
  obtain ⟨g, c, rfl, hg, hat⟩ := at_own HP.out hl0
  obtain ⟨N, hNN⟩ : ∃ N, p.length = 64 * N := ⟨p.length / 64, by omega⟩
  have HNN := hid hNN
  clear hlp hpz hpb hNN
  have HAT := hid hat
  have HG := hid (show w1.heap.size ≤ g from hg)
  have HR0 := hid (show Blk w2 w.heap.size 24 (bw .u8 (fun _ => 0) 32) ∧ Src w2 g p ∧ Fr No w w2 ∧ g < w2.heap.size ∧ w.heap.size < g from
    ⟨HB2.out, hat, HF2.out, (HP.out.lt g rfl), by have := HS1.out; omega⟩)
  clear hP hat hg hp HB2 HF2 HP HB1 HF1 HS1
  go_wp2_with fail
  refine (first_any _).mono ?_
  rintro e w3 ⟨rfl, hf3⟩
  have HR1 := hid (show Blk w3 w.heap.size 24 (bw .u8 (fun _ => 0) 32) ∧ Src w3 g p ∧ Fr No w w3 ∧ g < w3.heap.size ∧ w.heap.size < g from
    ⟨HR0.out.1.fr hf3 id, HR0.out.2.1.fr hf3 id, HR0.out.2.2.1.trans' hf3, Nat.lt_of_lt_of_le HR0.out.2.2.2.1 hf3.size, HR0.out.2.2.2.2⟩)
  clear HR0 hf3
  go_wp2_with (first
    | ((with_reducible show wpList _ _ _ ({ dst := _, op := .alloc 41, type := _, pos := _, after := _, guard := _ } :: _) _ _); refine wpL_alloc rfl _ rfl _ zero8w (bw .u32 (fun _ => 0) 8) rfl ?_; intro w4 HB4 HF4 HS4)
    | ((with_reducible show wpList _ _ _ ({ dst := _, op := .store 41 _ _, type := _, pos := _, after := _, guard := _ } :: _) _ _); refine wpL_whole rfl _ _ _ rfl w3.heap.size h0 8 rfl rfl _ _ HB4.out info8w ?_; intro w5 HB5 HF5 HS5))
  refine (constants_any _).mono ?_
  rintro e w6 ⟨rfl, hf6⟩
  obtain ⟨b4, hb4⟩ : ∃ b, w3.heap.size = b := ⟨_, rfl⟩
  have hm : Fr No w3 w5 := HF4.out.trans HF5.out fun i e => .inr (by have : i = w3.heap.size := e; omega)
  have l2 := HR1.out.1.lt
  have HR2 := hid (show Blk w6 w.heap.size 24 (bw .u8 (fun _ => 0) 32) ∧ Src w6 g p ∧ Blk w6 b4 41 (bw .u32 h0 8) ∧ Fr No w w6 ∧ g < b4 ∧ w.heap.size < g ∧ b4 < w6.heap.size from
    ⟨(HR1.out.1.fr hm id).fr hf6 id, (HR1.out.2.1.fr hm id).fr hf6 id, by rw [← hb4]; exact HB5.out.fr hf6 id, (HR1.out.2.2.1.trans' hm).trans' hf6, by have := HR1.out.2.2.2.1; omega, HR1.out.2.2.2.2, by have := HB5.out.lt; have := hf6.size; omega⟩)
  rw [hb4]
  clear HR1 HB4 HF4 HS4 HB5 HF5 HS5 hf6 hm l2 hb4
  go_wp2_with (first
    | ((with_reducible show wpList _ _ _ ({ dst := _, op := .alloc 43, type := _, pos := _, after := _, guard := _ } :: _) _ _); refine wpL_alloc rfl _ rfl _ zero64w (bw .u32 (fun _ => 0) 64) rfl ?_; intro w7 HB7 HF7 HS7)
    | ((with_reducible show wpList _ _ _ ({ dst := _, op := .store 43 _ _, type := _, pos := _, after := _, guard := _ } :: _) _ _); refine wpL_whole rfl _ _ _ rfl w6.heap.size kc 64 rfl rfl _ _ HB7.out info64w ?_; intro w8 HB8 HF8 HS8))
  obtain ⟨b5, hb5⟩ : ∃ b, w6.heap.size = b := ⟨_, rfl⟩
  obtain ⟨b2, hb2⟩ : ∃ b, w.heap.size = b := ⟨_, rfl⟩
  have hm : Fr No w6 w8 := HF7.out.trans HF8.out fun i e => .inr (by have : i = w6.heap.size := e; omega)
  have HR := hid (show Blk w8 b2 24 (bw .u8 (fun _ => 0) 32) ∧ Src w8 g p ∧ Blk w8 b4 41 (bw .u32 (hs p 0) 8) ∧ Blk w8 b5 43 (bw .u32 kc 64) ∧ Fr No w w8 by
    rw [← hb2, ← hb5]
    exact ⟨HR2.out.1.fr hm id, HR2.out.2.1.fr hm id, HR2.out.2.2.1.fr hm id, HB8.out, HR2.out.2.2.2.1.trans' hm⟩)
  have HN := hid (show w.heap.size = b2 ∧ b2 < g ∧ g < b4 ∧ b4 < b5 by have := HR2.out; omega)
  rw [hb2, hb5]
  clear HR2 HB7 HF7 HS7 HB8 HF8 HS8 hm hb2 hb5
  go_loopw [6, 7, 8, 9, 10, 11, 12, 13, 14, 15, 16] (fun at_ _ _ _ _ _ _ _ _ _ _ wr => ∃ n : Nat, n ≤ N ∧ at_ = .int .i64 (64 * n : Nat) ∧ Hid (Blk wr b2 24 (bw .u8 (fun _ => 0) 32) ∧ Src wr g p ∧ Blk wr b4 41 (bw .u32 (hs p n) 8) ∧ Blk wr b5 43 (bw .u32 kc 64) ∧ Fr No w wr)) (fun at_ _ _ _ _ _ _ _ _ _ _ _ => p.length - (intOf at_).toNat)
  case atStart => exact ⟨0, by omega, rfl, HR⟩
  case round =>
    clear HR
    obtain ⟨n, hn, rfl, HR⟩ := hrel
    by_cases hlt : n < N
    · have hat : ((64 * n : Nat) : Int) < (p.length : Int) := by have := HNN.out; omega
      obtain ⟨A, hA⟩ : ∃ A, 64 * n = A := ⟨_, rfl⟩
      have hAi : (A : Int) + 64 ≤ (p.length : Int) := by have := HNN.out; omega
      rw [hA] at hat ⊢
      have HA := hid hA
      clear hA
      go_wp2_with (first
        | ((with_reducible show wpList _ _ _ ({ dst := _, op := .alloc 43, type := _, pos := _, after := _, guard := _ } :: _) _ _); refine wpL_alloc rfl _ rfl _ zero64w (bw .u32 (fun _ => 0) 64) rfl ?_; intro w7 HB7 HF7 HS7)
        | fail)
      obtain ⟨b7, hb7⟩ : ∃ b, wr.heap.size = b := ⟨_, rfl⟩
      have hB7 := HB7.out
      have l5 := HR.out.2.2.2.1.lt
      rw [hb7] at hB7 l5
      rw [hb7]
      have HN7 := hid (show b2 < b7 ∧ g < b7 ∧ b4 < b7 ∧ b5 < b7 ∧ w.heap.size ≤ b7 by have := HN.out; omega)
      have HR' := hid (show Blk w7 b2 24 (bw .u8 (fun _ => 0) 32) ∧ Src w7 g p ∧ Blk w7 b4 41 (bw .u32 (hs p n) 8) ∧ Blk w7 b5 43 (bw .u32 kc 64) ∧ Blk w7 b7 43 (bw .u32 (upto 0 (mw p n) fun _ => 0) 64) ∧ Fr No w w7 by
        rw [upto_zero]
        exact ⟨HR.out.1.fr HF7.out id, HR.out.2.1.fr HF7.out id, HR.out.2.2.1.fr HF7.out id, HR.out.2.2.2.1.fr HF7.out id, hB7, HR.out.2.2.2.2.trans' HF7.out⟩)
      clear HR HB7 HF7 HS7 hb7 hB7 l5
      have HR := HR'
      clear HR'
      go_loopw [8] (fun i wr => ∃ j : Nat, j ≤ 16 ∧ i = .int .i64 j ∧ Hid (Blk wr b2 24 (bw .u8 (fun _ => 0) 32) ∧ Src wr g p ∧ Blk wr b4 41 (bw .u32 (hs p n) 8) ∧ Blk wr b5 43 (bw .u32 kc 64) ∧ Blk wr b7 43 (bw .u32 (upto j (mw p n) fun _ => 0) 64) ∧ Fr No w wr)) (fun i _ => 16 - (intOf i).toNat)
      case atStart => exact ⟨0, by omega, rfl, HR⟩
      case round =>
        clear HR
        obtain ⟨j, hj, rfl, HR⟩ := hrel
        by_cases hlt2 : j < 16
        · as_aux_lemma =>
          have hj64 : (j : Int) < 64 := by omega
          obtain ⟨P0, hP0⟩ : ∃ P, A + 4 * j = P := ⟨_, rfl⟩
          obtain ⟨P1, hP1⟩ : ∃ P, P0 + 1 = P := ⟨_, rfl⟩
          obtain ⟨P2, hP2⟩ : ∃ P, P0 + 2 = P := ⟨_, rfl⟩
          obtain ⟨P3, hP3⟩ : ∃ P, P0 + 3 = P := ⟨_, rfl⟩
          have HP0 := hid hP0
          have HPs := hid (show P0 + 1 = P1 ∧ P0 + 2 = P2 ∧ P0 + 3 = P3 from ⟨hP1, hP2, hP3⟩)
          have q0 : P0 < p.length := by omega
          have q1 : P1 < p.length := by omega
          have q2 : P2 < p.length := by omega
          have q3 : P3 < p.length := by omega
          have k0 := HR.out.2.1 P0 q0
          have k1 := HR.out.2.1 P1 q1
          have k2 := HR.out.2.1 P2 q2
          have k3 := HR.out.2.1 P3 q3
          have hw : mw p n j = p[P0].toNat * 16777216 + p[P1].toNat * 65536 + p[P2].toNat * 256 + p[P3].toNat := by
            have e : 64 * n + 4 * j = P0 := by have := HA.out; omega
            unfold mw word
            rw [e, hP1, hP2, hP3, getD_at p q0, getD_at p q1, getD_at p q2, getD_at p q3]
          obtain ⟨c0, e0, t0⟩ : ∃ c, p[P0].toNat = c ∧ c < 256 := ⟨_, rfl, UInt8.toNat_lt _⟩
          obtain ⟨c1, e1, t1⟩ : ∃ c, p[P1].toNat = c ∧ c < 256 := ⟨_, rfl, UInt8.toNat_lt _⟩
          obtain ⟨c2, e2, t2⟩ : ∃ c, p[P2].toNat = c ∧ c < 256 := ⟨_, rfl, UInt8.toNat_lt _⟩
          obtain ⟨c3, e3, t3⟩ : ∃ c, p[P3].toNat = c ∧ c < 256 := ⟨_, rfl, UInt8.toNat_lt _⟩
          rw [e0] at k0; rw [e1] at k1; rw [e2] at k2; rw [e3] at k3
          rw [e0, e1, e2, e3] at hw
          have HMW := hid hw
          have i0 : (P0 : Int) < (p.length : Int) := by omega
          have i1 : (P1 : Int) < (p.length : Int) := by omega
          have i2 : (P2 : Int) < (p.length : Int) := by omega
          have i3 : (P3 : Int) < (p.length : Int) := by omega
          clear hP0 hP1 hP2 hP3 q0 q1 q2 q3 hw e0 e1 e2 e3
          go_wp2_with fail
          have hold : Facts.hold [(7, fun w' => w'.cell? ⟨g, P0, none⟩ = some (.int .u8 (c0 : Int))), (17, fun w' => w'.cell? ⟨g, P1, none⟩ = some (.int .u8 (c1 : Int))), (28, fun w' => w'.cell? ⟨g, P2, none⟩ = some (.int .u8 (c2 : Int))), (39, fun w' => w'.cell? ⟨g, P3, none⟩ = some (.int .u8 (c3 : Int)))] wr.drew :=
            Facts.cons_hold k0 (Facts.cons_hold k1 (Facts.cons_hold k2 (Facts.cons_hold k3 (Facts.nil_hold _))))
          clear k0 k1 k2 k3
          refine wpD_region hold (by kernel_rfl) 44 rfl ?_
          (refine wpD_plain 0 (v := ?_) rfl (by kernel_rfl) (by kernel_rfl) (by kernel_rfl) (fun _ _ _ h => h) (by rfl) ?_ (by assumption) ?_; rotate_left; (intro _w; go_simp; try with_reducible rfl); simp only [Act.put, List.setIfInBounds_toArray, List.set_cons_zero, List.set_cons_succ])
          (refine wpD_plain 1 (v := ?_) rfl (by kernel_rfl) (by kernel_rfl) (by kernel_rfl) (fun _ _ _ h => h) (by rfl) ?_ (by assumption) ?_; rotate_left; (intro _w; go_simp; try with_reducible rfl); simp only [Act.put, List.setIfInBounds_toArray, List.set_cons_zero, List.set_cons_succ])
          (refine wpD_plain 2 (v := ?_) rfl (by kernel_rfl) (by kernel_rfl) (by kernel_rfl) (fun _ _ _ h => h) (by rfl) ?_ (by assumption) ?_; rotate_left; (intro _w; go_simp; try with_reducible rfl); simp only [Act.put, List.setIfInBounds_toArray, List.set_cons_zero, List.set_cons_succ])
          (refine wpD_plain 3 (v := ?_) rfl (by kernel_rfl) (by kernel_rfl) (by kernel_rfl) (fun _ _ _ h => h) (by rfl) ?_ (by assumption) ?_; rotate_left; (intro _w; go_simp; try with_reducible rfl); simp only [Act.put, List.setIfInBounds_toArray, List.set_cons_zero, List.set_cons_succ])
          (refine wpD_plain 4 (v := (.int .i64 ((4 * j : Nat) : Int))) rfl (by kernel_rfl) (by kernel_rfl) (by kernel_rfl) (fun _ _ _ h => h) (by rfl) ?_ (by assumption) ?_; (intro _w; go_simp; (first | omega | (rw [IntKind.wrap_i64]; omega) | (rw [IntKind.wrap_u32']; omega) | rfl)); simp only [Act.put, List.setIfInBounds_toArray, List.set_cons_zero, List.set_cons_succ])
          (refine wpD_plain 5 (v := (.int .i64 (P0 : Int))) rfl (by kernel_rfl) (by kernel_rfl) (by kernel_rfl) (fun _ _ _ h => h) (by rfl) ?_ (by assumption) ?_; (intro _w; go_simp; (have := HP0.out; rw [IntKind.wrap_i64]; omega)); simp only [Act.put, List.setIfInBounds_toArray, List.set_cons_zero, List.set_cons_succ])
          (refine wpD_plain 6 (v := ?_) rfl (by kernel_rfl) (by kernel_rfl) (by kernel_rfl) (fun _ _ _ h => h) (by rfl) ?_ (by assumption) ?_; rotate_left; (intro _w; go_simp; try with_reducible rfl); simp only [Act.put, List.setIfInBounds_toArray, List.set_cons_zero, List.set_cons_succ])
          (refine wpD_take 7 _ rfl (by kernel_rfl) (by kernel_rfl) (by kernel_rfl) (fun _ _ _ h => h) List.mem_cons_self (by rfl) (v := ?_) ?_ (by assumption) ?_; rotate_left; (intro _w _hw; go_simp; try with_reducible rfl); simp only [Act.put, List.setIfInBounds_toArray, List.set_cons_zero, List.set_cons_succ])
          (refine wpD_plain 8 (v := (.int .u32 (c0 : Int))) rfl (by kernel_rfl) (by kernel_rfl) (by kernel_rfl) (fun _ _ _ h => h) (by rfl) ?_ (by assumption) ?_; (intro _w; go_simp; (first | omega | (rw [IntKind.wrap_i64]; omega) | (rw [IntKind.wrap_u32']; omega) | rfl)); simp only [Act.put, List.setIfInBounds_toArray, List.set_cons_zero, List.set_cons_succ])
          (refine wpD_plain 9 (v := (.int .u32 ((c0 * 16777216 : Nat) : Int))) rfl (by kernel_rfl) (by kernel_rfl) (by kernel_rfl) (fun _ _ _ h => h) (by rfl) ?_ (by assumption) ?_; (intro _w; go_simp; (first | omega | (rw [IntKind.wrap_i64]; omega) | (rw [IntKind.wrap_u32']; omega) | rfl)); simp only [Act.put, List.setIfInBounds_toArray, List.set_cons_zero, List.set_cons_succ])
          (refine wpD_plain 10 (v := ?_) rfl (by kernel_rfl) (by kernel_rfl) (by kernel_rfl) (fun _ _ _ h => h) (by rfl) ?_ (by assumption) ?_; rotate_left; (intro _w; go_simp; try with_reducible rfl); simp only [Act.put, List.setIfInBounds_toArray, List.set_cons_zero, List.set_cons_succ])
          (refine wpD_plain 11 (v := ?_) rfl (by kernel_rfl) (by kernel_rfl) (by kernel_rfl) (fun _ _ _ h => h) (by rfl) ?_ (by assumption) ?_; rotate_left; (intro _w; go_simp; try with_reducible rfl); simp only [Act.put, List.setIfInBounds_toArray, List.set_cons_zero, List.set_cons_succ])
          (refine wpD_plain 12 (v := ?_) rfl (by kernel_rfl) (by kernel_rfl) (by kernel_rfl) (fun _ _ _ h => h) (by rfl) ?_ (by assumption) ?_; rotate_left; (intro _w; go_simp; try with_reducible rfl); simp only [Act.put, List.setIfInBounds_toArray, List.set_cons_zero, List.set_cons_succ])
          (refine wpD_plain 13 (v := (.int .i64 ((4 * j : Nat) : Int))) rfl (by kernel_rfl) (by kernel_rfl) (by kernel_rfl) (fun _ _ _ h => h) (by rfl) ?_ (by assumption) ?_; (intro _w; go_simp; (first | omega | (rw [IntKind.wrap_i64]; omega) | (rw [IntKind.wrap_u32']; omega) | rfl)); simp only [Act.put, List.setIfInBounds_toArray, List.set_cons_zero, List.set_cons_succ])
          (refine wpD_plain 14 (v := (.int .i64 (P0 : Int))) rfl (by kernel_rfl) (by kernel_rfl) (by kernel_rfl) (fun _ _ _ h => h) (by rfl) ?_ (by assumption) ?_; (intro _w; go_simp; (have := HP0.out; rw [IntKind.wrap_i64]; omega)); simp only [Act.put, List.setIfInBounds_toArray, List.set_cons_zero, List.set_cons_succ])
          (refine wpD_plain 15 (v := (.int .i64 (P1 : Int))) rfl (by kernel_rfl) (by kernel_rfl) (by kernel_rfl) (fun _ _ _ h => h) (by rfl) ?_ (by assumption) ?_; (intro _w; go_simp; (have := HPs.out; rw [IntKind.wrap_i64]; omega)); simp only [Act.put, List.setIfInBounds_toArray, List.set_cons_zero, List.set_cons_succ])
          (refine wpD_plain 16 (v := ?_) rfl (by kernel_rfl) (by kernel_rfl) (by kernel_rfl) (fun _ _ _ h => h) (by rfl) ?_ (by assumption) ?_; rotate_left; (intro _w; go_simp; try with_reducible rfl); simp only [Act.put, List.setIfInBounds_toArray, List.set_cons_zero, List.set_cons_succ])
          (refine wpD_take 17 _ rfl (by kernel_rfl) (by kernel_rfl) (by kernel_rfl) (fun _ _ _ h => h) (List.mem_cons_of_mem _ List.mem_cons_self) (by rfl) (v := ?_) ?_ (by assumption) ?_; rotate_left; (intro _w _hw; go_simp; try with_reducible rfl); simp only [Act.put, List.setIfInBounds_toArray, List.set_cons_zero, List.set_cons_succ])
          (refine wpD_plain 18 (v := (.int .u32 (c1 : Int))) rfl (by kernel_rfl) (by kernel_rfl) (by kernel_rfl) (fun _ _ _ h => h) (by rfl) ?_ (by assumption) ?_; (intro _w; go_simp; (first | omega | (rw [IntKind.wrap_i64]; omega) | (rw [IntKind.wrap_u32']; omega) | rfl)); simp only [Act.put, List.setIfInBounds_toArray, List.set_cons_zero, List.set_cons_succ])
          (refine wpD_plain 19 (v := (.int .u32 ((c1 * 65536 : Nat) : Int))) rfl (by kernel_rfl) (by kernel_rfl) (by kernel_rfl) (fun _ _ _ h => h) (by rfl) ?_ (by assumption) ?_; (intro _w; go_simp; (first | omega | (rw [IntKind.wrap_i64]; omega) | (rw [IntKind.wrap_u32']; omega) | rfl)); simp only [Act.put, List.setIfInBounds_toArray, List.set_cons_zero, List.set_cons_succ])
          (refine wpD_plain 20 (v := (.int .u32 ((c0 * 16777216 + c1 * 65536 : Nat) : Int))) rfl (by kernel_rfl) (by kernel_rfl) (by kernel_rfl) (fun _ _ _ h => h) (by rfl) ?_ (by assumption) ?_; (intro _w; go_simp; (first | omega | (rw [IntKind.wrap_i64]; omega) | (rw [IntKind.wrap_u32']; omega) | rfl)); simp only [Act.put, List.setIfInBounds_toArray, List.set_cons_zero, List.set_cons_succ])
          (refine wpD_plain 21 (v := ?_) rfl (by kernel_rfl) (by kernel_rfl) (by kernel_rfl) (fun _ _ _ h => h) (by rfl) ?_ (by assumption) ?_; rotate_left; (intro _w; go_simp; try with_reducible rfl); simp only [Act.put, List.setIfInBounds_toArray, List.set_cons_zero, List.set_cons_succ])
          (refine wpD_plain 22 (v := ?_) rfl (by kernel_rfl) (by kernel_rfl) (by kernel_rfl) (fun _ _ _ h => h) (by rfl) ?_ (by assumption) ?_; rotate_left; (intro _w; go_simp; try with_reducible rfl); simp only [Act.put, List.setIfInBounds_toArray, List.set_cons_zero, List.set_cons_succ])
          (refine wpD_plain 23 (v := ?_) rfl (by kernel_rfl) (by kernel_rfl) (by kernel_rfl) (fun _ _ _ h => h) (by rfl) ?_ (by assumption) ?_; rotate_left; (intro _w; go_simp; try with_reducible rfl); simp only [Act.put, List.setIfInBounds_toArray, List.set_cons_zero, List.set_cons_succ])
          (refine wpD_plain 24 (v := (.int .i64 ((4 * j : Nat) : Int))) rfl (by kernel_rfl) (by kernel_rfl) (by kernel_rfl) (fun _ _ _ h => h) (by rfl) ?_ (by assumption) ?_; (intro _w; go_simp; (first | omega | (rw [IntKind.wrap_i64]; omega) | (rw [IntKind.wrap_u32']; omega) | rfl)); simp only [Act.put, List.setIfInBounds_toArray, List.set_cons_zero, List.set_cons_succ])
          (refine wpD_plain 25 (v := (.int .i64 (P0 : Int))) rfl (by kernel_rfl) (by kernel_rfl) (by kernel_rfl) (fun _ _ _ h => h) (by rfl) ?_ (by assumption) ?_; (intro _w; go_simp; (have := HP0.out; rw [IntKind.wrap_i64]; omega)); simp only [Act.put, List.setIfInBounds_toArray, List.set_cons_zero, List.set_cons_succ])
          (refine wpD_plain 26 (v := (.int .i64 (P2 : Int))) rfl (by kernel_rfl) (by kernel_rfl) (by kernel_rfl) (fun _ _ _ h => h) (by rfl) ?_ (by assumption) ?_; (intro _w; go_simp; (have := HPs.out; rw [IntKind.wrap_i64]; omega)); simp only [Act.put, List.setIfInBounds_toArray, List.set_cons_zero, List.set_cons_succ])
          (refine wpD_plain 27 (v := ?_) rfl (by kernel_rfl) (by kernel_rfl) (by kernel_rfl) (fun _ _ _ h => h) (by rfl) ?_ (by assumption) ?_; rotate_left; (intro _w; go_simp; try with_reducible rfl); simp only [Act.put, List.setIfInBounds_toArray, List.set_cons_zero, List.set_cons_succ])
          (refine wpD_take 28 _ rfl (by kernel_rfl) (by kernel_rfl) (by kernel_rfl) (fun _ _ _ h => h) (List.mem_cons_of_mem _ (List.mem_cons_of_mem _ List.mem_cons_self)) (by rfl) (v := ?_) ?_ (by assumption) ?_; rotate_left; (intro _w _hw; go_simp; try with_reducible rfl); simp only [Act.put, List.setIfInBounds_toArray, List.set_cons_zero, List.set_cons_succ])
          (refine wpD_plain 29 (v := (.int .u32 (c2 : Int))) rfl (by kernel_rfl) (by kernel_rfl) (by kernel_rfl) (fun _ _ _ h => h) (by rfl) ?_ (by assumption) ?_; (intro _w; go_simp; (first | omega | (rw [IntKind.wrap_i64]; omega) | (rw [IntKind.wrap_u32']; omega) | rfl)); simp only [Act.put, List.setIfInBounds_toArray, List.set_cons_zero, List.set_cons_succ])
          (refine wpD_plain 30 (v := (.int .u32 ((c2 * 256 : Nat) : Int))) rfl (by kernel_rfl) (by kernel_rfl) (by kernel_rfl) (fun _ _ _ h => h) (by rfl) ?_ (by assumption) ?_; (intro _w; go_simp; (first | omega | (rw [IntKind.wrap_i64]; omega) | (rw [IntKind.wrap_u32']; omega) | rfl)); simp only [Act.put, List.setIfInBounds_toArray, List.set_cons_zero, List.set_cons_succ])
          (refine wpD_plain 31 (v := (.int .u32 ((c0 * 16777216 + c1 * 65536 + c2 * 256 : Nat) : Int))) rfl (by kernel_rfl) (by kernel_rfl) (by kernel_rfl) (fun _ _ _ h => h) (by rfl) ?_ (by assumption) ?_; (intro _w; go_simp; (first | omega | (rw [IntKind.wrap_i64]; omega) | (rw [IntKind.wrap_u32']; omega) | rfl)); simp only [Act.put, List.setIfInBounds_toArray, List.set_cons_zero, List.set_cons_succ])
          (refine wpD_plain 32 (v := ?_) rfl (by kernel_rfl) (by kernel_rfl) (by kernel_rfl) (fun _ _ _ h => h) (by rfl) ?_ (by assumption) ?_; rotate_left; (intro _w; go_simp; try with_reducible rfl); simp only [Act.put, List.setIfInBounds_toArray, List.set_cons_zero, List.set_cons_succ])
          (refine wpD_plain 33 (v := ?_) rfl (by kernel_rfl) (by kernel_rfl) (by kernel_rfl) (fun _ _ _ h => h) (by rfl) ?_ (by assumption) ?_; rotate_left; (intro _w; go_simp; try with_reducible rfl); simp only [Act.put, List.setIfInBounds_toArray, List.set_cons_zero, List.set_cons_succ])
          (refine wpD_plain 34 (v := ?_) rfl (by kernel_rfl) (by kernel_rfl) (by kernel_rfl) (fun _ _ _ h => h) (by rfl) ?_ (by assumption) ?_; rotate_left; (intro _w; go_simp; try with_reducible rfl); simp only [Act.put, List.setIfInBounds_toArray, List.set_cons_zero, List.set_cons_succ])
          (refine wpD_plain 35 (v := (.int .i64 ((4 * j : Nat) : Int))) rfl (by kernel_rfl) (by kernel_rfl) (by kernel_rfl) (fun _ _ _ h => h) (by rfl) ?_ (by assumption) ?_; (intro _w; go_simp; (first | omega | (rw [IntKind.wrap_i64]; omega) | (rw [IntKind.wrap_u32']; omega) | rfl)); simp only [Act.put, List.setIfInBounds_toArray, List.set_cons_zero, List.set_cons_succ])
          (refine wpD_plain 36 (v := (.int .i64 (P0 : Int))) rfl (by kernel_rfl) (by kernel_rfl) (by kernel_rfl) (fun _ _ _ h => h) (by rfl) ?_ (by assumption) ?_; (intro _w; go_simp; (have := HP0.out; rw [IntKind.wrap_i64]; omega)); simp only [Act.put, List.setIfInBounds_toArray, List.set_cons_zero, List.set_cons_succ])
          (refine wpD_plain 37 (v := (.int .i64 (P3 : Int))) rfl (by kernel_rfl) (by kernel_rfl) (by kernel_rfl) (fun _ _ _ h => h) (by rfl) ?_ (by assumption) ?_; (intro _w; go_simp; (have := HPs.out; rw [IntKind.wrap_i64]; omega)); simp only [Act.put, List.setIfInBounds_toArray, List.set_cons_zero, List.set_cons_succ])
          (refine wpD_plain 38 (v := ?_) rfl (by kernel_rfl) (by kernel_rfl) (by kernel_rfl) (fun _ _ _ h => h) (by rfl) ?_ (by assumption) ?_; rotate_left; (intro _w; go_simp; try with_reducible rfl); simp only [Act.put, List.setIfInBounds_toArray, List.set_cons_zero, List.set_cons_succ])
          (refine wpD_take 39 _ rfl (by kernel_rfl) (by kernel_rfl) (by kernel_rfl) (fun _ _ _ h => h) (List.mem_cons_of_mem _ (List.mem_cons_of_mem _ (List.mem_cons_of_mem _ List.mem_cons_self))) (by rfl) (v := ?_) ?_ (by assumption) ?_; rotate_left; (intro _w _hw; go_simp; try with_reducible rfl); simp only [Act.put, List.setIfInBounds_toArray, List.set_cons_zero, List.set_cons_succ])
          (refine wpD_plain 40 (v := (.int .u32 (c3 : Int))) rfl (by kernel_rfl) (by kernel_rfl) (by kernel_rfl) (fun _ _ _ h => h) (by rfl) ?_ (by assumption) ?_; (intro _w; go_simp; (first | omega | (rw [IntKind.wrap_i64]; omega) | (rw [IntKind.wrap_u32']; omega) | rfl)); simp only [Act.put, List.setIfInBounds_toArray, List.set_cons_zero, List.set_cons_succ])
          (refine wpD_plain 41 (v := (.int .u32 (mw p n j : Int))) rfl (by kernel_rfl) (by kernel_rfl) (by kernel_rfl) (fun _ _ _ h => h) (by rfl) ?_ (by assumption) ?_; (intro _w; go_simp; (have := HMW.out; first | omega | (rw [IntKind.wrap_u32']; omega))); simp only [Act.put, List.setIfInBounds_toArray, List.set_cons_zero, List.set_cons_succ])
          (refine wpD_plain 42 (v := ?_) rfl (by kernel_rfl) (by kernel_rfl) (by kernel_rfl) (fun _ _ _ h => h) (by rfl) ?_ (by assumption) ?_; rotate_left; (intro _w; go_simp; try with_reducible rfl); simp only [Act.put, List.setIfInBounds_toArray, List.set_cons_zero, List.set_cons_succ])
          refine wpD_only 43 [] rfl (by kernel_rfl) (by kernel_rfl) (by rfl) (fun KS hKS => ?_)
          refine wp_put _ _ _ rfl b7 j (mw p n j) rfl rfl _ _ 64 HR.out.2.2.2.2.1.drew (by omega) infoW ?_
          intro w5 HB5 HF5 HS5
          refine hKS _ _ (Facts.nil_hold _) ?_
          clear hKS KS
          simp only [Act.put, List.setIfInBounds_toArray, List.set_cons_zero, List.set_cons_succ]
          refine wpD_done (by kernel_rfl) ?_ _
          have HR' := hid (show Blk w5 b2 24 (bw .u8 (fun _ => 0) 32) ∧ Src w5 g p ∧ Blk w5 b4 41 (bw .u32 (hs p n) 8) ∧ Blk w5 b5 43 (bw .u32 kc 64) ∧ Blk w5 b7 43 (bw .u32 (upto (j + 1) (mw p n) fun _ => 0) 64) ∧ Fr No w w5 by
            have hn7 := HN7.out
            rw [← upto_set]
            exact ⟨HR.out.1.drew.fr HF5.out (by omega), Src.fr (w := wr.drew) HR.out.2.1 HF5.out (by omega), HR.out.2.2.1.drew.fr HF5.out (by omega), HR.out.2.2.2.1.drew.fr HF5.out (by omega), HB5.out, HR.out.2.2.2.2.2.drew.trans HF5.out fun i e => .inr (by have : i = b7 := e; omega)⟩)
          clear HR HB5 HF5 HS5 hold HMW t0 t1 t2 t3 i0 i1 i2 i3
          go_wp2_with fail
          go_roundw
          case rel => exact ⟨j + 1, by omega, by go_num, HR'⟩
          case measure => simp [intOf]; omega
        · obtain rfl : j = 16 := by omega
          have h16 : bw .u32 (upto 16 (mw p n) fun _ => 0) 64 = bw .u32 (upto (16 + 0) (wS (mw p n) 0) fun _ => 0) 64 := rfl
          rw [h16] at HR
          clear h16
          go_wp2_with fail
          go_loopw [9, 10, 11] (fun i _ _ wr => ∃ j : Nat, j ≤ 48 ∧ i = .int .i64 (16 + j : Nat) ∧ Hid (Blk wr b2 24 (bw .u8 (fun _ => 0) 32) ∧ Src wr g p ∧ Blk wr b4 41 (bw .u32 (hs p n) 8) ∧ Blk wr b5 43 (bw .u32 kc 64) ∧ Blk wr b7 43 (bw .u32 (upto (16 + j) (wS (mw p n) j) fun _ => 0) 64) ∧ Fr No w wr)) (fun i _ _ _ => 64 - (intOf i).toNat)
          case atStart => exact ⟨0, by omega, rfl, HR⟩
          case round =>
            clear HR
            obtain ⟨j, hj, rfl, HR⟩ := hrel
            by_cases hlt3 : j < 48
            · as_aux_lemma =>
              obtain ⟨I, hI⟩ : ∃ I, 16 + j = I := ⟨_, rfl⟩
              have hIi : (I : Int) < 64 := by omega
              have hI16 : (16 : Int) ≤ (I : Int) := by omega
              have HI := hid hI
              have up : ∀ x, x < 16 + j → upto (16 + j) (wS (mw p n) j) (fun _ => 0) x = wS (mw p n) j x := fun x hx => by unfold AR.upto; rw [if_pos hx]
              have c0 := blk_at HR.out.2.2.2.2.1 (i := j) (by omega)
              have c1 := blk_at HR.out.2.2.2.2.1 (i := j + 9) (by omega)
              have c2 := blk_at HR.out.2.2.2.2.1 (i := j + 1) (by omega)
              have c3 := blk_at HR.out.2.2.2.2.1 (i := j + 14) (by omega)
              rw [up _ (by omega)] at c0 c1 c2 c3
              have hnew := wS_new (mw p n) j
              have HXa := hid (wS_lt (mw_lt p n) j j); have HXb := hid (wS_lt (mw_lt p n) j (j + 9)); have HXp := hid (wS_lt (mw_lt p n) j (j + 1)); have HXq := hid (wS_lt (mw_lt p n) j (j + 14))
              obtain ⟨wa, ea⟩ : ∃ x, wS (mw p n) j j = x := ⟨_, rfl⟩
              obtain ⟨wb, eb⟩ : ∃ x, wS (mw p n) j (j + 9) = x := ⟨_, rfl⟩
              obtain ⟨wp, ep⟩ : ∃ x, wS (mw p n) j (j + 1) = x := ⟨_, rfl⟩
              obtain ⟨wq, eq⟩ : ∃ x, wS (mw p n) j (j + 14) = x := ⟨_, rfl⟩
              rw [ea] at c0 HXa hnew; rw [eb] at c1 HXb hnew; rw [ep] at c2 HXp hnew; rw [eq] at c3 HXq hnew
              have d2 : wr.cell? ⟨b7, I - 15, none⟩ = some (.int .u32 (wp : Int)) := by rw [show I - 15 = j + 1 by omega]; exact c2
              have d3 : wr.cell? ⟨b7, I - 2, none⟩ = some (.int .u32 (wq : Int)) := by rw [show I - 2 = j + 14 by omega]; exact c3
              rw [hI]
              obtain ⟨J9, hJ9⟩ : ∃ x, j + 9 = x := ⟨_, rfl⟩
              rw [hJ9] at c1
              have HJ9 := hid hJ9
              have hji : (j : Int) < 64 := by omega
              have hJ9i : (J9 : Int) < 64 := by omega
              have lp7 := R_lt (n := 7) HXp.out; have lp18 := R_lt (n := 18) HXp.out; have lq17 := R_lt (n := 17) HXq.out; have lq19 := R_lt (n := 19) HXq.out
              have lp8 : wp / 8 < 4294967296 := Nat.lt_of_le_of_lt (Nat.div_le_self _ _) HXp.out
              have lq8 : wq / 1024 < 4294967296 := Nat.lt_of_le_of_lt (Nat.div_le_self _ _) HXq.out
              have hg0 : g0 wp = R 7 wp ^^^ R 18 wp ^^^ wp / 8 := rfl
              have hg1 : g1 wq = R 17 wq ^^^ R 19 wq ^^^ wq / 1024 := rfl
              obtain ⟨r7, hr7⟩ : ∃ x, R 7 wp = x := ⟨_, rfl⟩
              obtain ⟨r18, hr18⟩ : ∃ x, R 18 wp = x := ⟨_, rfl⟩
              obtain ⟨r17, hr17⟩ : ∃ x, R 17 wq = x := ⟨_, rfl⟩
              obtain ⟨r19, hr19⟩ : ∃ x, R 19 wq = x := ⟨_, rfl⟩
              obtain ⟨p8, hp8⟩ : ∃ x, wp / 8 = x := ⟨_, rfl⟩
              obtain ⟨q8, hq8⟩ : ∃ x, wq / 1024 = x := ⟨_, rfl⟩
              rw [hr7] at lp7 hg0; rw [hr18] at lp18 hg0; rw [hr17] at lq17 hg1; rw [hr19] at lq19 hg1; rw [hp8] at lp8 hg0; rw [hq8] at lq8 hg1
              have x1 := xor32 lp7 lp18
              have x2 := xor32 (xor_lt lp7 lp18) lp8
              have x3 := xor32 lq17 lq19
              have x4 := xor32 (xor_lt lq17 lq19) lq8
              rw [← hg0] at x2; rw [← hg1] at x4
              have lg0 : g0 wp < 4294967296 := by rw [hg0]; exact xor_lt (xor_lt lp7 lp18) lp8
              have lg1 : g1 wq < 4294967296 := by rw [hg1]; exact xor_lt (xor_lt lq17 lq19) lq8
              obtain ⟨y1, hy1⟩ : ∃ x, r7 ^^^ r18 = x := ⟨_, rfl⟩
              obtain ⟨y3, hy3⟩ : ∃ x, r17 ^^^ r19 = x := ⟨_, rfl⟩
              rw [hy1] at x1 x2; rw [hy3] at x3 x4
              obtain ⟨G0, hG0⟩ : ∃ x, g0 wp = x := ⟨_, rfl⟩
              obtain ⟨G1, hG1⟩ : ∃ x, g1 wq = x := ⟨_, rfl⟩
              rw [hG0] at x2 lg0 hnew; rw [hG1] at x4 lg1 hnew
              obtain ⟨V, hV⟩ : ∃ x, wS (mw p n) (j + 1) (j + 16) = x := ⟨_, rfl⟩
              rw [hV] at hnew
              have HV := hid hV
              have HNW := hid hnew
              have HR7 := hid hr7; have HR18 := hid hr18; have HR17 := hid hr17; have HR19 := hid hr19; have HP8 := hid hp8; have HQ8 := hid hq8
              have HLG := hid (And.intro lg0 lg1)
              clear up ea eb ep eq hnew hI c2 c3 hJ9 hV hr7 hr18 hr17 hr19 hp8 hq8 lp7 lp18 lq17 lq19 lp8 lq8 hg0 hg1 hy1 hy3 hG0 hG1 lg0 lg1
              go_wp2_with fail
              have hold : Facts.hold [(4, fun w' => w'.cell? ⟨b7, j, none⟩ = some (.int .u32 (wa : Int))), (8, fun w' => w'.cell? ⟨b7, J9, none⟩ = some (.int .u32 (wb : Int)))] wr.drew := (Facts.cons_hold c0 (Facts.cons_hold c1 (Facts.nil_hold _)))
              refine wpD_region hold (by kernel_rfl) 30 rfl ?_
              (refine wpD_plain 0 (v := ?_) rfl (by kernel_rfl) (by kernel_rfl) (by kernel_rfl) (fun _ _ _ h => h) (by rfl) ?_ (by assumption) ?_; rotate_left; (intro _w; go_simp; try with_reducible rfl); simp only [Act.put, List.setIfInBounds_toArray, List.set_cons_zero, List.set_cons_succ])
              (refine wpD_plain 1 (v := ?_) rfl (by kernel_rfl) (by kernel_rfl) (by kernel_rfl) (fun _ _ _ h => h) (by rfl) ?_ (by assumption) ?_; rotate_left; (intro _w; go_simp; try with_reducible rfl); simp only [Act.put, List.setIfInBounds_toArray, List.set_cons_zero, List.set_cons_succ])
              (refine wpD_plain 2 (v := (.int .i64 (j : Int))) rfl (by kernel_rfl) (by kernel_rfl) (by kernel_rfl) (fun _ _ _ h => h) (by rfl) ?_ (by assumption) ?_; (intro _w; go_simp; (have := HI.out; rw [IntKind.wrap_i64]; omega)); simp only [Act.put, List.setIfInBounds_toArray, List.set_cons_zero, List.set_cons_succ])
              (refine wpD_plain 3 (v := ?_) rfl (by kernel_rfl) (by kernel_rfl) (by kernel_rfl) (fun _ _ _ h => h) (by rfl) ?_ (by assumption) ?_; rotate_left; (intro _w; go_simp; try with_reducible rfl); simp only [Act.put, List.setIfInBounds_toArray, List.set_cons_zero, List.set_cons_succ])
              (refine wpD_take 4 _ rfl (by kernel_rfl) (by kernel_rfl) (by kernel_rfl) (fun _ _ _ h => h) List.mem_cons_self (by rfl) (v := ?_) ?_ (by assumption) ?_; rotate_left; (intro _w _hw; go_simp; try with_reducible rfl); simp only [Act.put, List.setIfInBounds_toArray, List.set_cons_zero, List.set_cons_succ])
              (refine wpD_plain 5 (v := ?_) rfl (by kernel_rfl) (by kernel_rfl) (by kernel_rfl) (fun _ _ _ h => h) (by rfl) ?_ (by assumption) ?_; rotate_left; (intro _w; go_simp; try with_reducible rfl); simp only [Act.put, List.setIfInBounds_toArray, List.set_cons_zero, List.set_cons_succ])
              (refine wpD_plain 6 (v := (.int .i64 (J9 : Int))) rfl (by kernel_rfl) (by kernel_rfl) (by kernel_rfl) (fun _ _ _ h => h) (by rfl) ?_ (by assumption) ?_; (intro _w; go_simp; (have := HI.out; have := HJ9.out; rw [IntKind.wrap_i64]; omega)); simp only [Act.put, List.setIfInBounds_toArray, List.set_cons_zero, List.set_cons_succ])
              (refine wpD_plain 7 (v := ?_) rfl (by kernel_rfl) (by kernel_rfl) (by kernel_rfl) (fun _ _ _ h => h) (by rfl) ?_ (by assumption) ?_; rotate_left; (intro _w; go_simp; try with_reducible rfl); simp only [Act.put, List.setIfInBounds_toArray, List.set_cons_zero, List.set_cons_succ])
              (refine wpD_take 8 _ rfl (by kernel_rfl) (by kernel_rfl) (by kernel_rfl) (fun _ _ _ h => h) (List.mem_cons_of_mem _ List.mem_cons_self) (by rfl) (v := ?_) ?_ (by assumption) ?_; rotate_left; (intro _w _hw; go_simp; try with_reducible rfl); simp only [Act.put, List.setIfInBounds_toArray, List.set_cons_zero, List.set_cons_succ])
              (refine wpD_plain 9 (v := (.int .u32 (((wa + wb) % 4294967296 : Nat) : Int))) rfl (by kernel_rfl) (by kernel_rfl) (by kernel_rfl) (fun _ _ _ h => h) (by rfl) ?_ (by assumption) ?_; (intro _w; go_simp; (first | omega | (rw [IntKind.wrap_u32']; omega) | rfl)); simp only [Act.put, List.setIfInBounds_toArray, List.set_cons_zero, List.set_cons_succ])
              (refine wpD_plain 10 (v := ?_) rfl (by kernel_rfl) (by kernel_rfl) (by kernel_rfl) (fun _ _ _ h => h) (by rfl) ?_ (by assumption) ?_; rotate_left; (intro _w; go_simp; try with_reducible rfl); simp only [Act.put, List.setIfInBounds_toArray, List.set_cons_zero, List.set_cons_succ])
              (refine wpD_plain 12 (v := ?_) rfl (by kernel_rfl) (by kernel_rfl) (by kernel_rfl) (fun _ _ _ h => h) (by rfl) ?_ (by assumption) ?_; rotate_left; (intro _w; go_simp; try with_reducible rfl); simp only [Act.put, List.setIfInBounds_toArray, List.set_cons_zero, List.set_cons_succ])
              (refine wpD_plain 15 (v := ?_) rfl (by kernel_rfl) (by kernel_rfl) (by kernel_rfl) (fun _ _ _ h => h) (by rfl) ?_ (by assumption) ?_; rotate_left; (intro _w; go_simp; try with_reducible rfl); simp only [Act.put, List.setIfInBounds_toArray, List.set_cons_zero, List.set_cons_succ])
              (refine wpD_plain 16 (v := (.int .u32 (p8 : Int))) rfl (by kernel_rfl) (by kernel_rfl) (by kernel_rfl) (fun _ _ _ h => h) (by rfl) ?_ (by assumption) ?_; (intro _w; go_simp; (have := HP8.out; first | omega | (rw [IntKind.wrap_u32']; omega))); simp only [Act.put, List.setIfInBounds_toArray, List.set_cons_zero, List.set_cons_succ])
              (refine wpD_plain 19 (v := ?_) rfl (by kernel_rfl) (by kernel_rfl) (by kernel_rfl) (fun _ _ _ h => h) (by rfl) ?_ (by assumption) ?_; rotate_left; (intro _w; go_simp; try with_reducible rfl); simp only [Act.put, List.setIfInBounds_toArray, List.set_cons_zero, List.set_cons_succ])
              (refine wpD_plain 21 (v := ?_) rfl (by kernel_rfl) (by kernel_rfl) (by kernel_rfl) (fun _ _ _ h => h) (by rfl) ?_ (by assumption) ?_; rotate_left; (intro _w; go_simp; try with_reducible rfl); simp only [Act.put, List.setIfInBounds_toArray, List.set_cons_zero, List.set_cons_succ])
              (refine wpD_plain 24 (v := ?_) rfl (by kernel_rfl) (by kernel_rfl) (by kernel_rfl) (fun _ _ _ h => h) (by rfl) ?_ (by assumption) ?_; rotate_left; (intro _w; go_simp; try with_reducible rfl); simp only [Act.put, List.setIfInBounds_toArray, List.set_cons_zero, List.set_cons_succ])
              (refine wpD_plain 25 (v := (.int .u32 (q8 : Int))) rfl (by kernel_rfl) (by kernel_rfl) (by kernel_rfl) (fun _ _ _ h => h) (by rfl) ?_ (by assumption) ?_; (intro _w; go_simp; (have := HQ8.out; first | omega | (rw [IntKind.wrap_u32']; omega))); simp only [Act.put, List.setIfInBounds_toArray, List.set_cons_zero, List.set_cons_succ])
              refine wpD_only 11 [(4, fun w' => w'.cell? ⟨b7, j, none⟩ = some (.int .u32 (wa : Int))), (8, fun w' => w'.cell? ⟨b7, J9, none⟩ = some (.int .u32 (wb : Int)))] rfl (by kernel_rfl) (by kernel_rfl) (by rfl) (fun K11 hK11 => ?_)
              refine wp_call _ [_, _] _ rfl _ [] rfl (fun _ _ => by kernel_rfl) [.int .u32 (wp : Int), .int .i64 7] rfl ?_
              refine (R_any wp 7 _ HXp.out (by decide) (by decide)).mono ?_
              rintro e w' ⟨rfl, z0, rfl⟩
              rw [HR7.out]
              refine ⟨_, rfl, hK11 _ _ (Facts.cons_hold c0 (Facts.cons_hold c1 (Facts.nil_hold _))) ?_⟩
              clear hK11 K11
              simp only [Act.put, List.setIfInBounds_toArray, List.set_cons_zero, List.set_cons_succ]
              replace hold : Facts.hold [(4, fun w' => w'.cell? ⟨b7, j, none⟩ = some (.int .u32 (wa : Int))), (8, fun w' => w'.cell? ⟨b7, J9, none⟩ = some (.int .u32 (wb : Int)))] (wr.drew.drewN z0) := (Facts.cons_hold c0 (Facts.cons_hold c1 (Facts.nil_hold _)))
              refine wpD_only 13 [(4, fun w' => w'.cell? ⟨b7, j, none⟩ = some (.int .u32 (wa : Int))), (8, fun w' => w'.cell? ⟨b7, J9, none⟩ = some (.int .u32 (wb : Int)))] rfl (by kernel_rfl) (by kernel_rfl) (by rfl) (fun K13 hK13 => ?_)
              refine wp_call _ [_, _] _ rfl _ [] rfl (fun _ _ => by kernel_rfl) [.int .u32 (wp : Int), .int .i64 18] rfl ?_
              refine (R_any wp 18 _ HXp.out (by decide) (by decide)).mono ?_
              rintro e w' ⟨rfl, z1, rfl⟩
              rw [HR18.out]
              refine ⟨_, rfl, hK13 _ _ (Facts.cons_hold c0 (Facts.cons_hold c1 (Facts.nil_hold _))) ?_⟩
              clear hK13 K13
              simp only [Act.put, List.setIfInBounds_toArray, List.set_cons_zero, List.set_cons_succ]
              replace hold : Facts.hold [(4, fun w' => w'.cell? ⟨b7, j, none⟩ = some (.int .u32 (wa : Int))), (8, fun w' => w'.cell? ⟨b7, J9, none⟩ = some (.int .u32 (wb : Int)))] ((wr.drew.drewN z0).drewN z1) := (Facts.cons_hold c0 (Facts.cons_hold c1 (Facts.nil_hold _)))
              (refine wpD_plain 14 (v := ?_) rfl (by kernel_rfl) (by kernel_rfl) (by kernel_rfl) (fun _ _ _ h => h) (by rfl) ?_ (by assumption) ?_; rotate_left; (intro _w; go_simp; try with_reducible rfl); simp only [Act.put, List.setIfInBounds_toArray, List.set_cons_zero, List.set_cons_succ])
              (refine wpD_plain 17 (v := ?_) rfl (by kernel_rfl) (by kernel_rfl) (by kernel_rfl) (fun _ _ _ h => h) (by rfl) ?_ (by assumption) ?_; rotate_left; (intro _w; go_simp; try with_reducible rfl); simp only [Act.put, List.setIfInBounds_toArray, List.set_cons_zero, List.set_cons_succ])
              (refine wpD_plain 18 (v := (.int .u32 (((wa + wb + G0) % 4294967296 : Nat) : Int))) rfl (by kernel_rfl) (by kernel_rfl) (by kernel_rfl) (fun _ _ _ h => h) (by rfl) ?_ (by assumption) ?_; (intro _w; go_simp; (first | omega | (rw [IntKind.wrap_u32']; omega) | rfl)); simp only [Act.put, List.setIfInBounds_toArray, List.set_cons_zero, List.set_cons_succ])
              refine wpD_only 20 [(4, fun w' => w'.cell? ⟨b7, j, none⟩ = some (.int .u32 (wa : Int))), (8, fun w' => w'.cell? ⟨b7, J9, none⟩ = some (.int .u32 (wb : Int)))] rfl (by kernel_rfl) (by kernel_rfl) (by rfl) (fun K20 hK20 => ?_)
              refine wp_call _ [_, _] _ rfl _ [] rfl (fun _ _ => by kernel_rfl) [.int .u32 (wq : Int), .int .i64 17] rfl ?_
              refine (R_any wq 17 _ HXq.out (by decide) (by decide)).mono ?_
              rintro e w' ⟨rfl, z2, rfl⟩
              rw [HR17.out]
              refine ⟨_, rfl, hK20 _ _ (Facts.cons_hold c0 (Facts.cons_hold c1 (Facts.nil_hold _))) ?_⟩
              clear hK20 K20
              simp only [Act.put, List.setIfInBounds_toArray, List.set_cons_zero, List.set_cons_succ]
              replace hold : Facts.hold [(4, fun w' => w'.cell? ⟨b7, j, none⟩ = some (.int .u32 (wa : Int))), (8, fun w' => w'.cell? ⟨b7, J9, none⟩ = some (.int .u32 (wb : Int)))] (((wr.drew.drewN z0).drewN z1).drewN z2) := (Facts.cons_hold c0 (Facts.cons_hold c1 (Facts.nil_hold _)))
              refine wpD_only 22 [(4, fun w' => w'.cell? ⟨b7, j, none⟩ = some (.int .u32 (wa : Int))), (8, fun w' => w'.cell? ⟨b7, J9, none⟩ = some (.int .u32 (wb : Int)))] rfl (by kernel_rfl) (by kernel_rfl) (by rfl) (fun K22 hK22 => ?_)
              refine wp_call _ [_, _] _ rfl _ [] rfl (fun _ _ => by kernel_rfl) [.int .u32 (wq : Int), .int .i64 19] rfl ?_
              refine (R_any wq 19 _ HXq.out (by decide) (by decide)).mono ?_
              rintro e w' ⟨rfl, z3, rfl⟩
              rw [HR19.out]
              refine ⟨_, rfl, hK22 _ _ (Facts.cons_hold c0 (Facts.cons_hold c1 (Facts.nil_hold _))) ?_⟩
              clear hK22 K22
              simp only [Act.put, List.setIfInBounds_toArray, List.set_cons_zero, List.set_cons_succ]
              replace hold : Facts.hold [(4, fun w' => w'.cell? ⟨b7, j, none⟩ = some (.int .u32 (wa : Int))), (8, fun w' => w'.cell? ⟨b7, J9, none⟩ = some (.int .u32 (wb : Int)))] ((((wr.drew.drewN z0).drewN z1).drewN z2).drewN z3) := (Facts.cons_hold c0 (Facts.cons_hold c1 (Facts.nil_hold _)))
              (refine wpD_plain 23 (v := ?_) rfl (by kernel_rfl) (by kernel_rfl) (by kernel_rfl) (fun _ _ _ h => h) (by rfl) ?_ (by assumption) ?_; rotate_left; (intro _w; go_simp; try with_reducible rfl); simp only [Act.put, List.setIfInBounds_toArray, List.set_cons_zero, List.set_cons_succ])
              (refine wpD_plain 26 (v := ?_) rfl (by kernel_rfl) (by kernel_rfl) (by kernel_rfl) (fun _ _ _ h => h) (by rfl) ?_ (by assumption) ?_; rotate_left; (intro _w; go_simp; try with_reducible rfl); simp only [Act.put, List.setIfInBounds_toArray, List.set_cons_zero, List.set_cons_succ])
              (refine wpD_plain 27 (v := (.int .u32 (V : Int))) rfl (by kernel_rfl) (by kernel_rfl) (by kernel_rfl) (fun _ _ _ h => h) (by rfl) ?_ (by assumption) ?_; (intro _w; go_simp; (have := HNW.out; first | omega | (rw [IntKind.wrap_u32']; omega))); simp only [Act.put, List.setIfInBounds_toArray, List.set_cons_zero, List.set_cons_succ])
              (refine wpD_plain 28 (v := ?_) rfl (by kernel_rfl) (by kernel_rfl) (by kernel_rfl) (fun _ _ _ h => h) (by rfl) ?_ (by assumption) ?_; rotate_left; (intro _w; go_simp; try with_reducible rfl); simp only [Act.put, List.setIfInBounds_toArray, List.set_cons_zero, List.set_cons_succ])
              refine wpD_only 29 [] rfl (by kernel_rfl) (by kernel_rfl) (by rfl) (fun KS hKS => ?_)
              refine wp_put _ _ _ rfl b7 I V rfl rfl _ _ 64 HR.out.2.2.2.2.1 (by omega) infoW ?_
              intro w5 HB5 HF5 HS5
              refine hKS _ _ (Facts.nil_hold _) ?_
              clear hKS KS
              simp only [Act.put, List.setIfInBounds_toArray, List.set_cons_zero, List.set_cons_succ]
              refine wpD_done (by kernel_rfl) ?_ _
              have hb5 := HB5.out
              rw [← HV.out, ← HI.out, upto_w] at hb5
              have hf5 := ((((((Fr.refl (fun k => k = b7) wr).drew).drewN z0).drewN z1).drewN z2).drewN z3).trans' HF5.out
              have HR' := hid (show Blk w5 b2 24 (bw .u8 (fun _ => 0) 32) ∧ Src w5 g p ∧ Blk w5 b4 41 (bw .u32 (hs p n) 8) ∧ Blk w5 b5 43 (bw .u32 kc 64) ∧ Blk w5 b7 43 (bw .u32 (upto (16 + (j + 1)) (wS (mw p n) (j + 1)) fun _ => 0) 64) ∧ Fr No w w5 by
                have hn7 := HN7.out
                exact ⟨HR.out.1.fr hf5 (by omega), HR.out.2.1.fr hf5 (by omega), HR.out.2.2.1.fr hf5 (by omega), HR.out.2.2.2.1.fr hf5 (by omega), hb5, HR.out.2.2.2.2.2.trans hf5 fun i e => .inr (by have : i = b7 := e; omega)⟩)
              have hI1 : ((I : Int) + 1) = ((16 + (j + 1) : Nat) : Int) := by have := HI.out; omega
              clear HR HB5 HF5 HS5 hold hb5 hf5 c0 c1 x1 x2 x3 x4 d2 d3
              go_wp2_with fail
              go_roundw
              case rel => exact ⟨j + 1, by omega, by first | rw [hI1] | rfl, HR'⟩
              case measure => simp [intOf]; omega
            · obtain rfl : j = 48 := by omega
              obtain ⟨M, hM⟩ : ∃ M, wS (mw p n) 48 = M := ⟨_, rfl⟩
              have hr := HR.out
              rw [show bw .u32 (upto (16 + 48) (wS (mw p n) 48) fun _ => 0) 64 = bw .u32 (wS (mw p n) 48) 64 from upto_all _ _ 64, hM] at hr
              have HMB := hid (hM ▸ wS_lt (mw_lt p n) 48 : B32 M)
              have HM := hid hM
              have HH := hid (hs_lt p n)
              have HRM := hid hr
              clear HR hr hM
              go_wp2_with (first
                | ((with_reducible show wpList _ _ _ ({ dst := _, op := .load 41 _, type := _, pos := _, after := _, guard := _ } :: _) _ _); refine wpL_all rfl _ _ rfl b4 rfl _ (hs p n) 8 _ HRM.out.2.2.1 rfl rfl info8w ?_)
                | ((with_reducible show wpList _ _ _ ({ dst := _, op := .alloc 41, type := _, pos := _, after := _, guard := _ } :: _) _ _); refine wpL_alloc rfl _ rfl _ zero8w (bw .u32 (fun _ => 0) 8) rfl ?_; intro w5 HB5 HF5 HS5)
                | ((with_reducible show wpList _ _ _ ({ dst := _, op := .store 41 _ _, type := _, pos := _, after := _, guard := _ } :: _) _ _); refine wpL_whole rfl _ _ _ rfl wr.heap.size (hs p n) 8 rfl rfl _ _ HB5.out info8w ?_; intro w6 HB6 HF6 HS6)
                | fail)
              obtain ⟨b12, hb12⟩ : ∃ b, wr.heap.size = b := ⟨_, rfl⟩
              have hB12 := HB6.out
              have l7 := HRM.out.2.2.2.2.1.lt
              have hm : Fr No wr w6 := HF5.out.trans HF6.out fun i e => .inr (by have : i = wr.heap.size := e; omega)
              rw [hb12] at hB12 l7
              rw [hb12]
              have HN12 := hid (show b2 < b12 ∧ g < b12 ∧ b4 < b12 ∧ b5 < b12 ∧ b7 < b12 ∧ w.heap.size ≤ b12 by have := HN.out; have := HN7.out; omega)
              have HR := hid (show Blk w6 b2 24 (bw .u8 (fun _ => 0) 32) ∧ Src w6 g p ∧ Blk w6 b4 41 (bw .u32 (hs p n) 8) ∧ Blk w6 b5 43 (bw .u32 kc 64) ∧ Blk w6 b7 43 (bw .u32 M 64) ∧ Blk w6 b12 41 (bw .u32 (rds M (hs p n) 0) 8) ∧ Fr No w w6 from
                ⟨HRM.out.1.fr hm id, HRM.out.2.1.fr hm id, HRM.out.2.2.1.fr hm id, HRM.out.2.2.2.1.fr hm id, HRM.out.2.2.2.2.1.fr hm id, hB12, HRM.out.2.2.2.2.2.trans' hm⟩)
              clear HRM HB5 HF5 HS5 HB6 HF6 HS6 hb12 hB12 l7 hm
              go_wp2_with fail
              go_loopw [13, 14, 15] (fun i _ _ wr => ∃ j : Nat, j ≤ 64 ∧ i = .int .i64 j ∧ Hid (Blk wr b2 24 (bw .u8 (fun _ => 0) 32) ∧ Src wr g p ∧ Blk wr b4 41 (bw .u32 (hs p n) 8) ∧ Blk wr b5 43 (bw .u32 kc 64) ∧ Blk wr b7 43 (bw .u32 M 64) ∧ Blk wr b12 41 (bw .u32 (rds M (hs p n) j) 8) ∧ Fr No w wr)) (fun i _ _ _ => 64 - (intOf i).toNat)
              case atStart => exact ⟨0, by omega, rfl, HR⟩
              case round =>
                clear HR
                obtain ⟨j, hj, rfl, HR⟩ := hrel
                by_cases hlt4 : j < 64
                · as_aux_lemma =>
                  obtain ⟨S, hS⟩ : ∃ S, rds M (hs p n) j = S := ⟨_, rfl⟩
                  have hr := HR.out
                  rw [hS] at hr
                  have HSB := hid (hS ▸ rds_lt M HH.out j : B32 S)
                  have HS := hid hS
                  have HRS := hid hr
                  clear HR hr hS
                  have HC := hid (kc_lt j)
                  have k0 := blk_at HRS.out.2.2.2.2.2.1 (i := 0) (by decide)
                  have k1 := blk_at HRS.out.2.2.2.2.2.1 (i := 1) (by decide)
                  have k2 := blk_at HRS.out.2.2.2.2.2.1 (i := 2) (by decide)
                  have k4 := blk_at HRS.out.2.2.2.2.2.1 (i := 4) (by decide)
                  have k5 := blk_at HRS.out.2.2.2.2.2.1 (i := 5) (by decide)
                  have k6 := blk_at HRS.out.2.2.2.2.2.1 (i := 6) (by decide)
                  have k7 := blk_at HRS.out.2.2.2.2.2.1 (i := 7) (by decide)
                  have kk := blk_at HRS.out.2.2.2.1 (i := j) hlt4
                  have km := blk_at HRS.out.2.2.2.2.1 (i := j) hlt4
                  have hX : rx (kc j) (M j) S = (S 7 + e1 (S 4) + ch (S 4) (S 5) (S 6) + kc j + M j) % 4294967296 := rfl
                  have hY : ry S = (e0 (S 0) + maj (S 0) (S 1) (S 2)) % 4294967296 := rfl
                  have b0 := HSB.out 0; have b1' := HSB.out 1; have b2' := HSB.out 2; have b4' := HSB.out 4; have b5' := HSB.out 5; have b6' := HSB.out 6
                  have n6 := R_lt (n := 6) b4'; have n11 := R_lt (n := 11) b4'; have n25 := R_lt (n := 25) b4'
                  have n2 := R_lt (n := 2) b0; have n13 := R_lt (n := 13) b0; have n22 := R_lt (n := 22) b0
                  have he1 : e1 (S 4) = R 6 (S 4) ^^^ R 11 (S 4) ^^^ R 25 (S 4) := rfl
                  have he0 : e0 (S 0) = R 2 (S 0) ^^^ R 13 (S 0) ^^^ R 22 (S 0) := rfl
                  have hch : ch (S 4) (S 5) (S 6) = (S 4 &&& S 5) ^^^ ((4294967295 - S 4) &&& S 6) := rfl
                  have hmj : maj (S 0) (S 1) (S 2) = (S 0 &&& S 1) ^^^ (S 0 &&& S 2) ^^^ (S 1 &&& S 2) := rfl
                  obtain ⟨r6, hr6⟩ : ∃ x, R 6 (S 4) = x := ⟨_, rfl⟩
                  obtain ⟨r11, hr11⟩ : ∃ x, R 11 (S 4) = x := ⟨_, rfl⟩
                  obtain ⟨r25, hr25⟩ : ∃ x, R 25 (S 4) = x := ⟨_, rfl⟩
                  obtain ⟨r2, hr2⟩ : ∃ x, R 2 (S 0) = x := ⟨_, rfl⟩
                  obtain ⟨r13, hr13⟩ : ∃ x, R 13 (S 0) = x := ⟨_, rfl⟩
                  obtain ⟨r22, hr22⟩ : ∃ x, R 22 (S 0) = x := ⟨_, rfl⟩
                  rw [hr6] at n6 he1
                  rw [hr11] at n11 he1
                  rw [hr25] at n25 he1
                  rw [hr2] at n2 he0
                  rw [hr13] at n13 he0
                  rw [hr22] at n22 he0
                  obtain ⟨v4, hv4⟩ : ∃ x, 4294967295 - S 4 = x := ⟨_, rfl⟩
                  have bv4 : v4 < 4294967296 := by omega
                  rw [hv4] at hch
                  have x1 := xor32 n6 n11
                  have x2 := xor32 (xor_lt n6 n11) n25
                  rw [← he1] at x2
                  have x3 := and32 b4' b5'
                  have x4 := and32 bv4 b6'
                  have x5 := xor32 (and_lt (a := S 4) b5') (and_lt (a := v4) b6')
                  rw [← hch] at x5
                  have x6 := xor32 n2 n13
                  have x7 := xor32 (xor_lt n2 n13) n22
                  rw [← he0] at x7
                  have x8 := and32 b0 b1'
                  have x9 := and32 b0 b2'
                  have x10 := xor32 (and_lt (a := S 0) b1') (and_lt (a := S 0) b2')
                  have x11 := and32 b1' b2'
                  have x12 := xor32 (xor_lt (and_lt (a := S 0) b1') (and_lt (a := S 0) b2')) (and_lt (a := S 1) b2')
                  rw [← hmj] at x12
                  obtain ⟨y1, hy1e⟩ : ∃ x, r6 ^^^ r11 = x := ⟨_, rfl⟩
                  rw [hy1e] at x1 x2
                  obtain ⟨y3, hy3e⟩ : ∃ x, S 4 &&& S 5 = x := ⟨_, rfl⟩
                  rw [hy3e] at x3 x5
                  obtain ⟨y4, hy4e⟩ : ∃ x, v4 &&& S 6 = x := ⟨_, rfl⟩
                  rw [hy4e] at x4 x5
                  obtain ⟨y6, hy6e⟩ : ∃ x, r2 ^^^ r13 = x := ⟨_, rfl⟩
                  rw [hy6e] at x6 x7
                  obtain ⟨y10, hy10e⟩ : ∃ x, (S 0 &&& S 1) ^^^ (S 0 &&& S 2) = x := ⟨_, rfl⟩
                  rw [hy10e] at x10 x12
                  obtain ⟨y8, hy8e⟩ : ∃ x, S 0 &&& S 1 = x := ⟨_, rfl⟩
                  rw [hy8e] at x8 x10
                  obtain ⟨y9, hy9e⟩ : ∃ x, S 0 &&& S 2 = x := ⟨_, rfl⟩
                  rw [hy9e] at x9 x10
                  obtain ⟨y11, hy11e⟩ : ∃ x, S 1 &&& S 2 = x := ⟨_, rfl⟩
                  rw [hy11e] at x11 x12
                  obtain ⟨E1, he1e⟩ : ∃ x, e1 (S 4) = x := ⟨_, rfl⟩
                  rw [he1e] at x2 hX
                  obtain ⟨E0, he0e⟩ : ∃ x, e0 (S 0) = x := ⟨_, rfl⟩
                  rw [he0e] at x7 hY
                  obtain ⟨C1, hc1e⟩ : ∃ x, ch (S 4) (S 5) (S 6) = x := ⟨_, rfl⟩
                  rw [hc1e] at x5 hX
                  obtain ⟨M1, hm1e⟩ : ∃ x, maj (S 0) (S 1) (S 2) = x := ⟨_, rfl⟩
                  rw [hm1e] at x12 hY
                  obtain ⟨X, hxe⟩ : ∃ x, rx (kc j) (M j) S = x := ⟨_, rfl⟩
                  rw [hxe] at hX
                  obtain ⟨Y, hye⟩ : ∃ x, ry S = x := ⟨_, rfl⟩
                  rw [hye] at hY
                  obtain ⟨kv, hkve⟩ : ∃ x, kc j = x := ⟨_, rfl⟩
                  rw [hkve] at hX kk
                  obtain ⟨mv, hmve⟩ : ∃ x, M j = x := ⟨_, rfl⟩
                  rw [hmve] at hX km
                  have HR6 := hid hr6; have HR11 := hid hr11; have HR25 := hid hr25; have HR2 := hid hr2; have HR13 := hid hr13; have HR22 := hid hr22; have HV4 := hid hv4; have HX := hid hX; have HY := hid hY; have HXE := hid hxe; have HYE := hid hye; have HS4B := hid b4'; have HS0B := hid b0
                  clear HC hr6 hr11 hr25 hr2 hr13 hr22 hv4 hX hY he1 he0 hch hmj n6 n11 n25 n2 n13 n22 b0 b1' b2' b4' b5' b6' bv4 hy1e hy3e hy4e hy6e hy10e hy8e hy9e hy11e he1e he0e hc1e hm1e hxe hye hkve hmve
                  have hj64 : (j : Int) < 64 := by omega
                  go_wp2_with fail
                  have hold : Facts.hold [(1, fun w' => w'.cell? ⟨b12, 7, none⟩ = some (.int .u32 (S 7 : Int))), (3, fun w' => w'.cell? ⟨b12, 4, none⟩ = some (.int .u32 (S 4 : Int))), (6, fun w' => w'.cell? ⟨b12, 4, none⟩ = some (.int .u32 (S 4 : Int))), (10, fun w' => w'.cell? ⟨b12, 4, none⟩ = some (.int .u32 (S 4 : Int))), (15, fun w' => w'.cell? ⟨b12, 4, none⟩ = some (.int .u32 (S 4 : Int))), (17, fun w' => w'.cell? ⟨b12, 5, none⟩ = some (.int .u32 (S 5 : Int))), (20, fun w' => w'.cell? ⟨b12, 4, none⟩ = some (.int .u32 (S 4 : Int))), (23, fun w' => w'.cell? ⟨b12, 6, none⟩ = some (.int .u32 (S 6 : Int))), (29, fun w' => w'.cell? ⟨b5, j, none⟩ = some (.int .u32 (kv : Int))), (33, fun w' => w'.cell? ⟨b7, j, none⟩ = some (.int .u32 (mv : Int)))] wr.drew := (Facts.cons_hold k7 (Facts.cons_hold k4 (Facts.cons_hold k4 (Facts.cons_hold k4 (Facts.cons_hold k4 (Facts.cons_hold k5 (Facts.cons_hold k4 (Facts.cons_hold k6 (Facts.cons_hold kk (Facts.cons_hold km (Facts.nil_hold _)))))))))))
                  refine wpD_region hold (by kernel_rfl) 36 rfl ?_
                  (refine wpD_plain 0 (v := ?_) rfl (by kernel_rfl) (by kernel_rfl) (by kernel_rfl) (fun _ _ _ h => h) (by rfl) ?_ (by assumption) ?_; rotate_left; (intro _w; go_simp; try with_reducible rfl); simp only [Act.put, List.setIfInBounds_toArray, List.set_cons_zero, List.set_cons_succ])
                  (refine wpD_take 1 _ rfl (by kernel_rfl) (by kernel_rfl) (by kernel_rfl) (fun _ _ _ h => h) List.mem_cons_self (by rfl) (v := ?_) ?_ (by assumption) ?_; rotate_left; (intro _w _hw; go_simp; try with_reducible rfl); simp only [Act.put, List.setIfInBounds_toArray, List.set_cons_zero, List.set_cons_succ])
                  (refine wpD_plain 2 (v := ?_) rfl (by kernel_rfl) (by kernel_rfl) (by kernel_rfl) (fun _ _ _ h => h) (by rfl) ?_ (by assumption) ?_; rotate_left; (intro _w; go_simp; try with_reducible rfl); simp only [Act.put, List.setIfInBounds_toArray, List.set_cons_zero, List.set_cons_succ])
                  (refine wpD_take 3 _ rfl (by kernel_rfl) (by kernel_rfl) (by kernel_rfl) (fun _ _ _ h => h) (List.mem_cons_of_mem _ List.mem_cons_self) (by rfl) (v := ?_) ?_ (by assumption) ?_; rotate_left; (intro _w _hw; go_simp; try with_reducible rfl); simp only [Act.put, List.setIfInBounds_toArray, List.set_cons_zero, List.set_cons_succ])
                  (refine wpD_plain 5 (v := ?_) rfl (by kernel_rfl) (by kernel_rfl) (by kernel_rfl) (fun _ _ _ h => h) (by rfl) ?_ (by assumption) ?_; rotate_left; (intro _w; go_simp; try with_reducible rfl); simp only [Act.put, List.setIfInBounds_toArray, List.set_cons_zero, List.set_cons_succ])
                  (refine wpD_take 6 _ rfl (by kernel_rfl) (by kernel_rfl) (by kernel_rfl) (fun _ _ _ h => h) (List.mem_cons_of_mem _ (List.mem_cons_of_mem _ List.mem_cons_self)) (by rfl) (v := ?_) ?_ (by assumption) ?_; rotate_left; (intro _w _hw; go_simp; try with_reducible rfl); simp only [Act.put, List.setIfInBounds_toArray, List.set_cons_zero, List.set_cons_succ])
                  (refine wpD_plain 9 (v := ?_) rfl (by kernel_rfl) (by kernel_rfl) (by kernel_rfl) (fun _ _ _ h => h) (by rfl) ?_ (by assumption) ?_; rotate_left; (intro _w; go_simp; try with_reducible rfl); simp only [Act.put, List.setIfInBounds_toArray, List.set_cons_zero, List.set_cons_succ])
                  (refine wpD_take 10 _ rfl (by kernel_rfl) (by kernel_rfl) (by kernel_rfl) (fun _ _ _ h => h) (List.mem_cons_of_mem _ (List.mem_cons_of_mem _ (List.mem_cons_of_mem _ List.mem_cons_self))) (by rfl) (v := ?_) ?_ (by assumption) ?_; rotate_left; (intro _w _hw; go_simp; try with_reducible rfl); simp only [Act.put, List.setIfInBounds_toArray, List.set_cons_zero, List.set_cons_succ])
                  (refine wpD_plain 14 (v := ?_) rfl (by kernel_rfl) (by kernel_rfl) (by kernel_rfl) (fun _ _ _ h => h) (by rfl) ?_ (by assumption) ?_; rotate_left; (intro _w; go_simp; try with_reducible rfl); simp only [Act.put, List.setIfInBounds_toArray, List.set_cons_zero, List.set_cons_succ])
                  (refine wpD_take 15 _ rfl (by kernel_rfl) (by kernel_rfl) (by kernel_rfl) (fun _ _ _ h => h) (List.mem_cons_of_mem _ (List.mem_cons_of_mem _ (List.mem_cons_of_mem _ (List.mem_cons_of_mem _ List.mem_cons_self)))) (by rfl) (v := ?_) ?_ (by assumption) ?_; rotate_left; (intro _w _hw; go_simp; try with_reducible rfl); simp only [Act.put, List.setIfInBounds_toArray, List.set_cons_zero, List.set_cons_succ])
                  (refine wpD_plain 16 (v := ?_) rfl (by kernel_rfl) (by kernel_rfl) (by kernel_rfl) (fun _ _ _ h => h) (by rfl) ?_ (by assumption) ?_; rotate_left; (intro _w; go_simp; try with_reducible rfl); simp only [Act.put, List.setIfInBounds_toArray, List.set_cons_zero, List.set_cons_succ])
                  (refine wpD_take 17 _ rfl (by kernel_rfl) (by kernel_rfl) (by kernel_rfl) (fun _ _ _ h => h) (List.mem_cons_of_mem _ (List.mem_cons_of_mem _ (List.mem_cons_of_mem _ (List.mem_cons_of_mem _ (List.mem_cons_of_mem _ List.mem_cons_self))))) (by rfl) (v := ?_) ?_ (by assumption) ?_; rotate_left; (intro _w _hw; go_simp; try with_reducible rfl); simp only [Act.put, List.setIfInBounds_toArray, List.set_cons_zero, List.set_cons_succ])
                  (refine wpD_plain 18 (v := ?_) rfl (by kernel_rfl) (by kernel_rfl) (by kernel_rfl) (fun _ _ _ h => h) (by rfl) ?_ (by assumption) ?_; rotate_left; (intro _w; go_simp; try with_reducible rfl); simp only [Act.put, List.setIfInBounds_toArray, List.set_cons_zero, List.set_cons_succ])
                  (refine wpD_plain 19 (v := ?_) rfl (by kernel_rfl) (by kernel_rfl) (by kernel_rfl) (fun _ _ _ h => h) (by rfl) ?_ (by assumption) ?_; rotate_left; (intro _w; go_simp; try with_reducible rfl); simp only [Act.put, List.setIfInBounds_toArray, List.set_cons_zero, List.set_cons_succ])
                  (refine wpD_take 20 _ rfl (by kernel_rfl) (by kernel_rfl) (by kernel_rfl) (fun _ _ _ h => h) (List.mem_cons_of_mem _ (List.mem_cons_of_mem _ (List.mem_cons_of_mem _ (List.mem_cons_of_mem _ (List.mem_cons_of_mem _ (List.mem_cons_of_mem _ List.mem_cons_self)))))) (by rfl) (v := ?_) ?_ (by assumption) ?_; rotate_left; (intro _w _hw; go_simp; try with_reducible rfl); simp only [Act.put, List.setIfInBounds_toArray, List.set_cons_zero, List.set_cons_succ])
                  (refine wpD_plain 21 (v := (.int .u32 (v4 : Int))) rfl (by kernel_rfl) (by kernel_rfl) (by kernel_rfl) (fun _ _ _ h => h) (by rfl) ?_ (by assumption) ?_; (intro _w; go_simp; (have := HV4.out; have := HS4B.out; first | omega | (rw [IntKind.wrap_u32']; omega))); simp only [Act.put, List.setIfInBounds_toArray, List.set_cons_zero, List.set_cons_succ])
                  (refine wpD_plain 22 (v := ?_) rfl (by kernel_rfl) (by kernel_rfl) (by kernel_rfl) (fun _ _ _ h => h) (by rfl) ?_ (by assumption) ?_; rotate_left; (intro _w; go_simp; try with_reducible rfl); simp only [Act.put, List.setIfInBounds_toArray, List.set_cons_zero, List.set_cons_succ])
                  (refine wpD_take 23 _ rfl (by kernel_rfl) (by kernel_rfl) (by kernel_rfl) (fun _ _ _ h => h) (List.mem_cons_of_mem _ (List.mem_cons_of_mem _ (List.mem_cons_of_mem _ (List.mem_cons_of_mem _ (List.mem_cons_of_mem _ (List.mem_cons_of_mem _ (List.mem_cons_of_mem _ List.mem_cons_self))))))) (by rfl) (v := ?_) ?_ (by assumption) ?_; rotate_left; (intro _w _hw; go_simp; try with_reducible rfl); simp only [Act.put, List.setIfInBounds_toArray, List.set_cons_zero, List.set_cons_succ])
                  (refine wpD_plain 24 (v := ?_) rfl (by kernel_rfl) (by kernel_rfl) (by kernel_rfl) (fun _ _ _ h => h) (by rfl) ?_ (by assumption) ?_; rotate_left; (intro _w; go_simp; try with_reducible rfl); simp only [Act.put, List.setIfInBounds_toArray, List.set_cons_zero, List.set_cons_succ])
                  (refine wpD_plain 25 (v := ?_) rfl (by kernel_rfl) (by kernel_rfl) (by kernel_rfl) (fun _ _ _ h => h) (by rfl) ?_ (by assumption) ?_; rotate_left; (intro _w; go_simp; try with_reducible rfl); simp only [Act.put, List.setIfInBounds_toArray, List.set_cons_zero, List.set_cons_succ])
                  (refine wpD_plain 27 (v := ?_) rfl (by kernel_rfl) (by kernel_rfl) (by kernel_rfl) (fun _ _ _ h => h) (by rfl) ?_ (by assumption) ?_; rotate_left; (intro _w; go_simp; try with_reducible rfl); simp only [Act.put, List.setIfInBounds_toArray, List.set_cons_zero, List.set_cons_succ])
                  (refine wpD_plain 28 (v := ?_) rfl (by kernel_rfl) (by kernel_rfl) (by kernel_rfl) (fun _ _ _ h => h) (by rfl) ?_ (by assumption) ?_; rotate_left; (intro _w; go_simp; try with_reducible rfl); simp only [Act.put, List.setIfInBounds_toArray, List.set_cons_zero, List.set_cons_succ])
                  (refine wpD_take 29 _ rfl (by kernel_rfl) (by kernel_rfl) (by kernel_rfl) (fun _ _ _ h => h) (List.mem_cons_of_mem _ (List.mem_cons_of_mem _ (List.mem_cons_of_mem _ (List.mem_cons_of_mem _ (List.mem_cons_of_mem _ (List.mem_cons_of_mem _ (List.mem_cons_of_mem _ (List.mem_cons_of_mem _ List.mem_cons_self)))))))) (by rfl) (v := ?_) ?_ (by assumption) ?_; rotate_left; (intro _w _hw; go_simp; try with_reducible rfl); simp only [Act.put, List.setIfInBounds_toArray, List.set_cons_zero, List.set_cons_succ])
                  (refine wpD_plain 31 (v := ?_) rfl (by kernel_rfl) (by kernel_rfl) (by kernel_rfl) (fun _ _ _ h => h) (by rfl) ?_ (by assumption) ?_; rotate_left; (intro _w; go_simp; try with_reducible rfl); simp only [Act.put, List.setIfInBounds_toArray, List.set_cons_zero, List.set_cons_succ])
                  (refine wpD_plain 32 (v := ?_) rfl (by kernel_rfl) (by kernel_rfl) (by kernel_rfl) (fun _ _ _ h => h) (by rfl) ?_ (by assumption) ?_; rotate_left; (intro _w; go_simp; try with_reducible rfl); simp only [Act.put, List.setIfInBounds_toArray, List.set_cons_zero, List.set_cons_succ])
                  (refine wpD_take 33 _ rfl (by kernel_rfl) (by kernel_rfl) (by kernel_rfl) (fun _ _ _ h => h) (List.mem_cons_of_mem _ (List.mem_cons_of_mem _ (List.mem_cons_of_mem _ (List.mem_cons_of_mem _ (List.mem_cons_of_mem _ (List.mem_cons_of_mem _ (List.mem_cons_of_mem _ (List.mem_cons_of_mem _ (List.mem_cons_of_mem _ List.mem_cons_self))))))))) (by rfl) (v := ?_) ?_ (by assumption) ?_; rotate_left; (intro _w _hw; go_simp; try with_reducible rfl); simp only [Act.put, List.setIfInBounds_toArray, List.set_cons_zero, List.set_cons_succ])
                  refine wpD_only 4 [(1, fun w' => w'.cell? ⟨b12, 7, none⟩ = some (.int .u32 (S 7 : Int))), (6, fun w' => w'.cell? ⟨b12, 4, none⟩ = some (.int .u32 (S 4 : Int))), (10, fun w' => w'.cell? ⟨b12, 4, none⟩ = some (.int .u32 (S 4 : Int))), (15, fun w' => w'.cell? ⟨b12, 4, none⟩ = some (.int .u32 (S 4 : Int))), (17, fun w' => w'.cell? ⟨b12, 5, none⟩ = some (.int .u32 (S 5 : Int))), (20, fun w' => w'.cell? ⟨b12, 4, none⟩ = some (.int .u32 (S 4 : Int))), (23, fun w' => w'.cell? ⟨b12, 6, none⟩ = some (.int .u32 (S 6 : Int))), (29, fun w' => w'.cell? ⟨b5, j, none⟩ = some (.int .u32 (kv : Int))), (33, fun w' => w'.cell? ⟨b7, j, none⟩ = some (.int .u32 (mv : Int)))] rfl (by kernel_rfl) (by kernel_rfl) (by rfl) (fun K4 hK4 => ?_)
                  refine wp_call _ [_, _] _ rfl _ [] rfl (fun _ _ => by kernel_rfl) [.int .u32 (S 4 : Int), .int .i64 6] rfl ?_
                  refine (R_any (S 4) 6 _ HS4B.out (by decide) (by decide)).mono ?_
                  rintro e w' ⟨rfl, z0, rfl⟩
                  rw [HR6.out]
                  refine ⟨_, rfl, hK4 _ _ (Facts.cons_hold k7 (Facts.cons_hold k4 (Facts.cons_hold k4 (Facts.cons_hold k4 (Facts.cons_hold k5 (Facts.cons_hold k4 (Facts.cons_hold k6 (Facts.cons_hold kk (Facts.cons_hold km (Facts.nil_hold _)))))))))) ?_⟩
                  clear hK4 K4
                  simp only [Act.put, List.setIfInBounds_toArray, List.set_cons_zero, List.set_cons_succ]
                  replace hold : Facts.hold [(1, fun w' => w'.cell? ⟨b12, 7, none⟩ = some (.int .u32 (S 7 : Int))), (6, fun w' => w'.cell? ⟨b12, 4, none⟩ = some (.int .u32 (S 4 : Int))), (10, fun w' => w'.cell? ⟨b12, 4, none⟩ = some (.int .u32 (S 4 : Int))), (15, fun w' => w'.cell? ⟨b12, 4, none⟩ = some (.int .u32 (S 4 : Int))), (17, fun w' => w'.cell? ⟨b12, 5, none⟩ = some (.int .u32 (S 5 : Int))), (20, fun w' => w'.cell? ⟨b12, 4, none⟩ = some (.int .u32 (S 4 : Int))), (23, fun w' => w'.cell? ⟨b12, 6, none⟩ = some (.int .u32 (S 6 : Int))), (29, fun w' => w'.cell? ⟨b5, j, none⟩ = some (.int .u32 (kv : Int))), (33, fun w' => w'.cell? ⟨b7, j, none⟩ = some (.int .u32 (mv : Int)))] (wr.drew.drewN z0) := (Facts.cons_hold k7 (Facts.cons_hold k4 (Facts.cons_hold k4 (Facts.cons_hold k4 (Facts.cons_hold k5 (Facts.cons_hold k4 (Facts.cons_hold k6 (Facts.cons_hold kk (Facts.cons_hold km (Facts.nil_hold _))))))))))
                  refine wpD_only 7 [(1, fun w' => w'.cell? ⟨b12, 7, none⟩ = some (.int .u32 (S 7 : Int))), (10, fun w' => w'.cell? ⟨b12, 4, none⟩ = some (.int .u32 (S 4 : Int))), (15, fun w' => w'.cell? ⟨b12, 4, none⟩ = some (.int .u32 (S 4 : Int))), (17, fun w' => w'.cell? ⟨b12, 5, none⟩ = some (.int .u32 (S 5 : Int))), (20, fun w' => w'.cell? ⟨b12, 4, none⟩ = some (.int .u32 (S 4 : Int))), (23, fun w' => w'.cell? ⟨b12, 6, none⟩ = some (.int .u32 (S 6 : Int))), (29, fun w' => w'.cell? ⟨b5, j, none⟩ = some (.int .u32 (kv : Int))), (33, fun w' => w'.cell? ⟨b7, j, none⟩ = some (.int .u32 (mv : Int)))] rfl (by kernel_rfl) (by kernel_rfl) (by rfl) (fun K7 hK7 => ?_)
                  refine wp_call _ [_, _] _ rfl _ [] rfl (fun _ _ => by kernel_rfl) [.int .u32 (S 4 : Int), .int .i64 11] rfl ?_
                  refine (R_any (S 4) 11 _ HS4B.out (by decide) (by decide)).mono ?_
                  rintro e w' ⟨rfl, z1, rfl⟩
                  rw [HR11.out]
                  refine ⟨_, rfl, hK7 _ _ (Facts.cons_hold k7 (Facts.cons_hold k4 (Facts.cons_hold k4 (Facts.cons_hold k5 (Facts.cons_hold k4 (Facts.cons_hold k6 (Facts.cons_hold kk (Facts.cons_hold km (Facts.nil_hold _))))))))) ?_⟩
                  clear hK7 K7
                  simp only [Act.put, List.setIfInBounds_toArray, List.set_cons_zero, List.set_cons_succ]
                  replace hold : Facts.hold [(1, fun w' => w'.cell? ⟨b12, 7, none⟩ = some (.int .u32 (S 7 : Int))), (10, fun w' => w'.cell? ⟨b12, 4, none⟩ = some (.int .u32 (S 4 : Int))), (15, fun w' => w'.cell? ⟨b12, 4, none⟩ = some (.int .u32 (S 4 : Int))), (17, fun w' => w'.cell? ⟨b12, 5, none⟩ = some (.int .u32 (S 5 : Int))), (20, fun w' => w'.cell? ⟨b12, 4, none⟩ = some (.int .u32 (S 4 : Int))), (23, fun w' => w'.cell? ⟨b12, 6, none⟩ = some (.int .u32 (S 6 : Int))), (29, fun w' => w'.cell? ⟨b5, j, none⟩ = some (.int .u32 (kv : Int))), (33, fun w' => w'.cell? ⟨b7, j, none⟩ = some (.int .u32 (mv : Int)))] ((wr.drew.drewN z0).drewN z1) := (Facts.cons_hold k7 (Facts.cons_hold k4 (Facts.cons_hold k4 (Facts.cons_hold k5 (Facts.cons_hold k4 (Facts.cons_hold k6 (Facts.cons_hold kk (Facts.cons_hold km (Facts.nil_hold _)))))))))
                  (refine wpD_plain 8 (v := ?_) rfl (by kernel_rfl) (by kernel_rfl) (by kernel_rfl) (fun _ _ _ h => h) (by rfl) ?_ (by assumption) ?_; rotate_left; (intro _w; go_simp; try with_reducible rfl); simp only [Act.put, List.setIfInBounds_toArray, List.set_cons_zero, List.set_cons_succ])
                  refine wpD_only 11 [(1, fun w' => w'.cell? ⟨b12, 7, none⟩ = some (.int .u32 (S 7 : Int))), (15, fun w' => w'.cell? ⟨b12, 4, none⟩ = some (.int .u32 (S 4 : Int))), (17, fun w' => w'.cell? ⟨b12, 5, none⟩ = some (.int .u32 (S 5 : Int))), (20, fun w' => w'.cell? ⟨b12, 4, none⟩ = some (.int .u32 (S 4 : Int))), (23, fun w' => w'.cell? ⟨b12, 6, none⟩ = some (.int .u32 (S 6 : Int))), (29, fun w' => w'.cell? ⟨b5, j, none⟩ = some (.int .u32 (kv : Int))), (33, fun w' => w'.cell? ⟨b7, j, none⟩ = some (.int .u32 (mv : Int)))] rfl (by kernel_rfl) (by kernel_rfl) (by rfl) (fun K11 hK11 => ?_)
                  refine wp_call _ [_, _] _ rfl _ [] rfl (fun _ _ => by kernel_rfl) [.int .u32 (S 4 : Int), .int .i64 25] rfl ?_
                  refine (R_any (S 4) 25 _ HS4B.out (by decide) (by decide)).mono ?_
                  rintro e w' ⟨rfl, z2, rfl⟩
                  rw [HR25.out]
                  refine ⟨_, rfl, hK11 _ _ (Facts.cons_hold k7 (Facts.cons_hold k4 (Facts.cons_hold k5 (Facts.cons_hold k4 (Facts.cons_hold k6 (Facts.cons_hold kk (Facts.cons_hold km (Facts.nil_hold _)))))))) ?_⟩
                  clear hK11 K11
                  simp only [Act.put, List.setIfInBounds_toArray, List.set_cons_zero, List.set_cons_succ]
                  replace hold : Facts.hold [(1, fun w' => w'.cell? ⟨b12, 7, none⟩ = some (.int .u32 (S 7 : Int))), (15, fun w' => w'.cell? ⟨b12, 4, none⟩ = some (.int .u32 (S 4 : Int))), (17, fun w' => w'.cell? ⟨b12, 5, none⟩ = some (.int .u32 (S 5 : Int))), (20, fun w' => w'.cell? ⟨b12, 4, none⟩ = some (.int .u32 (S 4 : Int))), (23, fun w' => w'.cell? ⟨b12, 6, none⟩ = some (.int .u32 (S 6 : Int))), (29, fun w' => w'.cell? ⟨b5, j, none⟩ = some (.int .u32 (kv : Int))), (33, fun w' => w'.cell? ⟨b7, j, none⟩ = some (.int .u32 (mv : Int)))] (((wr.drew.drewN z0).drewN z1).drewN z2) := (Facts.cons_hold k7 (Facts.cons_hold k4 (Facts.cons_hold k5 (Facts.cons_hold k4 (Facts.cons_hold k6 (Facts.cons_hold kk (Facts.cons_hold km (Facts.nil_hold _))))))))
                  (refine wpD_plain 12 (v := ?_) rfl (by kernel_rfl) (by kernel_rfl) (by kernel_rfl) (fun _ _ _ h => h) (by rfl) ?_ (by assumption) ?_; rotate_left; (intro _w; go_simp; try with_reducible rfl); simp only [Act.put, List.setIfInBounds_toArray, List.set_cons_zero, List.set_cons_succ])
                  (refine wpD_plain 13 (v := (.int .u32 (((S 7 + E1) % 4294967296 : Nat) : Int))) rfl (by kernel_rfl) (by kernel_rfl) (by kernel_rfl) (fun _ _ _ h => h) (by rfl) ?_ (by assumption) ?_; (intro _w; go_simp; (first | omega | (rw [IntKind.wrap_u32']; omega) | rfl)); simp only [Act.put, List.setIfInBounds_toArray, List.set_cons_zero, List.set_cons_succ])
                  (refine wpD_plain 26 (v := (.int .u32 (((S 7 + E1 + C1) % 4294967296 : Nat) : Int))) rfl (by kernel_rfl) (by kernel_rfl) (by kernel_rfl) (fun _ _ _ h => h) (by rfl) ?_ (by assumption) ?_; (intro _w; go_simp; (first | omega | (rw [IntKind.wrap_u32']; omega) | rfl)); simp only [Act.put, List.setIfInBounds_toArray, List.set_cons_zero, List.set_cons_succ])
                  (refine wpD_plain 30 (v := (.int .u32 (((S 7 + E1 + C1 + kv) % 4294967296 : Nat) : Int))) rfl (by kernel_rfl) (by kernel_rfl) (by kernel_rfl) (fun _ _ _ h => h) (by rfl) ?_ (by assumption) ?_; (intro _w; go_simp; (first | omega | (rw [IntKind.wrap_u32']; omega) | rfl)); simp only [Act.put, List.setIfInBounds_toArray, List.set_cons_zero, List.set_cons_succ])
                  (refine wpD_plain 34 (v := (.int .u32 (X : Int))) rfl (by kernel_rfl) (by kernel_rfl) (by kernel_rfl) (fun _ _ _ h => h) (by rfl) ?_ (by assumption) ?_; (intro _w; go_simp; (have := HX.out; first | omega | (rw [IntKind.wrap_u32']; omega))); simp only [Act.put, List.setIfInBounds_toArray, List.set_cons_zero, List.set_cons_succ])
                  (refine wpD_plain 35 (v := ?_) rfl (by kernel_rfl) (by kernel_rfl) (by kernel_rfl) (fun _ _ _ h => h) (by rfl) ?_ (by assumption) ?_; rotate_left; (intro _w; go_simp; try with_reducible rfl); simp only [Act.put, List.setIfInBounds_toArray, List.set_cons_zero, List.set_cons_succ])
                  refine wpD_done (by kernel_rfl) ?_ _
                  clear hold
                  go_wp2_with fail
                  have hold : Facts.hold [(1, fun w' => w'.cell? ⟨b12, 0, none⟩ = some (.int .u32 (S 0 : Int))), (4, fun w' => w'.cell? ⟨b12, 0, none⟩ = some (.int .u32 (S 0 : Int))), (8, fun w' => w'.cell? ⟨b12, 0, none⟩ = some (.int .u32 (S 0 : Int))), (12, fun w' => w'.cell? ⟨b12, 0, none⟩ = some (.int .u32 (S 0 : Int))), (14, fun w' => w'.cell? ⟨b12, 1, none⟩ = some (.int .u32 (S 1 : Int))), (17, fun w' => w'.cell? ⟨b12, 0, none⟩ = some (.int .u32 (S 0 : Int))), (19, fun w' => w'.cell? ⟨b12, 2, none⟩ = some (.int .u32 (S 2 : Int))), (23, fun w' => w'.cell? ⟨b12, 1, none⟩ = some (.int .u32 (S 1 : Int))), (25, fun w' => w'.cell? ⟨b12, 2, none⟩ = some (.int .u32 (S 2 : Int)))] (((wr.drew.drewN z0).drewN z1).drewN z2).drew := (Facts.cons_hold k0 (Facts.cons_hold k0 (Facts.cons_hold k0 (Facts.cons_hold k0 (Facts.cons_hold k1 (Facts.cons_hold k0 (Facts.cons_hold k2 (Facts.cons_hold k1 (Facts.cons_hold k2 (Facts.nil_hold _))))))))))
                  refine wpD_region hold (by kernel_rfl) 30 rfl ?_
                  (refine wpD_plain 0 (v := ?_) rfl (by kernel_rfl) (by kernel_rfl) (by kernel_rfl) (fun _ _ _ h => h) (by rfl) ?_ (by assumption) ?_; rotate_left; (intro _w; go_simp; try with_reducible rfl); simp only [Act.put, List.setIfInBounds_toArray, List.set_cons_zero, List.set_cons_succ])
                  (refine wpD_take 1 _ rfl (by kernel_rfl) (by kernel_rfl) (by kernel_rfl) (fun _ _ _ h => h) List.mem_cons_self (by rfl) (v := ?_) ?_ (by assumption) ?_; rotate_left; (intro _w _hw; go_simp; try with_reducible rfl); simp only [Act.put, List.setIfInBounds_toArray, List.set_cons_zero, List.set_cons_succ])
                  (refine wpD_plain 3 (v := ?_) rfl (by kernel_rfl) (by kernel_rfl) (by kernel_rfl) (fun _ _ _ h => h) (by rfl) ?_ (by assumption) ?_; rotate_left; (intro _w; go_simp; try with_reducible rfl); simp only [Act.put, List.setIfInBounds_toArray, List.set_cons_zero, List.set_cons_succ])
                  (refine wpD_take 4 _ rfl (by kernel_rfl) (by kernel_rfl) (by kernel_rfl) (fun _ _ _ h => h) (List.mem_cons_of_mem _ List.mem_cons_self) (by rfl) (v := ?_) ?_ (by assumption) ?_; rotate_left; (intro _w _hw; go_simp; try with_reducible rfl); simp only [Act.put, List.setIfInBounds_toArray, List.set_cons_zero, List.set_cons_succ])
                  (refine wpD_plain 7 (v := ?_) rfl (by kernel_rfl) (by kernel_rfl) (by kernel_rfl) (fun _ _ _ h => h) (by rfl) ?_ (by assumption) ?_; rotate_left; (intro _w; go_simp; try with_reducible rfl); simp only [Act.put, List.setIfInBounds_toArray, List.set_cons_zero, List.set_cons_succ])
                  (refine wpD_take 8 _ rfl (by kernel_rfl) (by kernel_rfl) (by kernel_rfl) (fun _ _ _ h => h) (List.mem_cons_of_mem _ (List.mem_cons_of_mem _ List.mem_cons_self)) (by rfl) (v := ?_) ?_ (by assumption) ?_; rotate_left; (intro _w _hw; go_simp; try with_reducible rfl); simp only [Act.put, List.setIfInBounds_toArray, List.set_cons_zero, List.set_cons_succ])
                  (refine wpD_plain 11 (v := ?_) rfl (by kernel_rfl) (by kernel_rfl) (by kernel_rfl) (fun _ _ _ h => h) (by rfl) ?_ (by assumption) ?_; rotate_left; (intro _w; go_simp; try with_reducible rfl); simp only [Act.put, List.setIfInBounds_toArray, List.set_cons_zero, List.set_cons_succ])
                  (refine wpD_take 12 _ rfl (by kernel_rfl) (by kernel_rfl) (by kernel_rfl) (fun _ _ _ h => h) (List.mem_cons_of_mem _ (List.mem_cons_of_mem _ (List.mem_cons_of_mem _ List.mem_cons_self))) (by rfl) (v := ?_) ?_ (by assumption) ?_; rotate_left; (intro _w _hw; go_simp; try with_reducible rfl); simp only [Act.put, List.setIfInBounds_toArray, List.set_cons_zero, List.set_cons_succ])
                  (refine wpD_plain 13 (v := ?_) rfl (by kernel_rfl) (by kernel_rfl) (by kernel_rfl) (fun _ _ _ h => h) (by rfl) ?_ (by assumption) ?_; rotate_left; (intro _w; go_simp; try with_reducible rfl); simp only [Act.put, List.setIfInBounds_toArray, List.set_cons_zero, List.set_cons_succ])
                  (refine wpD_take 14 _ rfl (by kernel_rfl) (by kernel_rfl) (by kernel_rfl) (fun _ _ _ h => h) (List.mem_cons_of_mem _ (List.mem_cons_of_mem _ (List.mem_cons_of_mem _ (List.mem_cons_of_mem _ List.mem_cons_self)))) (by rfl) (v := ?_) ?_ (by assumption) ?_; rotate_left; (intro _w _hw; go_simp; try with_reducible rfl); simp only [Act.put, List.setIfInBounds_toArray, List.set_cons_zero, List.set_cons_succ])
                  (refine wpD_plain 15 (v := ?_) rfl (by kernel_rfl) (by kernel_rfl) (by kernel_rfl) (fun _ _ _ h => h) (by rfl) ?_ (by assumption) ?_; rotate_left; (intro _w; go_simp; try with_reducible rfl); simp only [Act.put, List.setIfInBounds_toArray, List.set_cons_zero, List.set_cons_succ])
                  (refine wpD_plain 16 (v := ?_) rfl (by kernel_rfl) (by kernel_rfl) (by kernel_rfl) (fun _ _ _ h => h) (by rfl) ?_ (by assumption) ?_; rotate_left; (intro _w; go_simp; try with_reducible rfl); simp only [Act.put, List.setIfInBounds_toArray, List.set_cons_zero, List.set_cons_succ])
                  (refine wpD_take 17 _ rfl (by kernel_rfl) (by kernel_rfl) (by kernel_rfl) (fun _ _ _ h => h) (List.mem_cons_of_mem _ (List.mem_cons_of_mem _ (List.mem_cons_of_mem _ (List.mem_cons_of_mem _ (List.mem_cons_of_mem _ List.mem_cons_self))))) (by rfl) (v := ?_) ?_ (by assumption) ?_; rotate_left; (intro _w _hw; go_simp; try with_reducible rfl); simp only [Act.put, List.setIfInBounds_toArray, List.set_cons_zero, List.set_cons_succ])
                  (refine wpD_plain 18 (v := ?_) rfl (by kernel_rfl) (by kernel_rfl) (by kernel_rfl) (fun _ _ _ h => h) (by rfl) ?_ (by assumption) ?_; rotate_left; (intro _w; go_simp; try with_reducible rfl); simp only [Act.put, List.setIfInBounds_toArray, List.set_cons_zero, List.set_cons_succ])
                  (refine wpD_take 19 _ rfl (by kernel_rfl) (by kernel_rfl) (by kernel_rfl) (fun _ _ _ h => h) (List.mem_cons_of_mem _ (List.mem_cons_of_mem _ (List.mem_cons_of_mem _ (List.mem_cons_of_mem _ (List.mem_cons_of_mem _ (List.mem_cons_of_mem _ List.mem_cons_self)))))) (by rfl) (v := ?_) ?_ (by assumption) ?_; rotate_left; (intro _w _hw; go_simp; try with_reducible rfl); simp only [Act.put, List.setIfInBounds_toArray, List.set_cons_zero, List.set_cons_succ])
                  (refine wpD_plain 20 (v := ?_) rfl (by kernel_rfl) (by kernel_rfl) (by kernel_rfl) (fun _ _ _ h => h) (by rfl) ?_ (by assumption) ?_; rotate_left; (intro _w; go_simp; try with_reducible rfl); simp only [Act.put, List.setIfInBounds_toArray, List.set_cons_zero, List.set_cons_succ])
                  (refine wpD_plain 21 (v := ?_) rfl (by kernel_rfl) (by kernel_rfl) (by kernel_rfl) (fun _ _ _ h => h) (by rfl) ?_ (by assumption) ?_; rotate_left; (intro _w; go_simp; try with_reducible rfl); simp only [Act.put, List.setIfInBounds_toArray, List.set_cons_zero, List.set_cons_succ])
                  (refine wpD_plain 22 (v := ?_) rfl (by kernel_rfl) (by kernel_rfl) (by kernel_rfl) (fun _ _ _ h => h) (by rfl) ?_ (by assumption) ?_; rotate_left; (intro _w; go_simp; try with_reducible rfl); simp only [Act.put, List.setIfInBounds_toArray, List.set_cons_zero, List.set_cons_succ])
                  (refine wpD_take 23 _ rfl (by kernel_rfl) (by kernel_rfl) (by kernel_rfl) (fun _ _ _ h => h) (List.mem_cons_of_mem _ (List.mem_cons_of_mem _ (List.mem_cons_of_mem _ (List.mem_cons_of_mem _ (List.mem_cons_of_mem _ (List.mem_cons_of_mem _ (List.mem_cons_of_mem _ List.mem_cons_self))))))) (by rfl) (v := ?_) ?_ (by assumption) ?_; rotate_left; (intro _w _hw; go_simp; try with_reducible rfl); simp only [Act.put, List.setIfInBounds_toArray, List.set_cons_zero, List.set_cons_succ])
                  (refine wpD_plain 24 (v := ?_) rfl (by kernel_rfl) (by kernel_rfl) (by kernel_rfl) (fun _ _ _ h => h) (by rfl) ?_ (by assumption) ?_; rotate_left; (intro _w; go_simp; try with_reducible rfl); simp only [Act.put, List.setIfInBounds_toArray, List.set_cons_zero, List.set_cons_succ])
                  (refine wpD_take 25 _ rfl (by kernel_rfl) (by kernel_rfl) (by kernel_rfl) (fun _ _ _ h => h) (List.mem_cons_of_mem _ (List.mem_cons_of_mem _ (List.mem_cons_of_mem _ (List.mem_cons_of_mem _ (List.mem_cons_of_mem _ (List.mem_cons_of_mem _ (List.mem_cons_of_mem _ (List.mem_cons_of_mem _ List.mem_cons_self)))))))) (by rfl) (v := ?_) ?_ (by assumption) ?_; rotate_left; (intro _w _hw; go_simp; try with_reducible rfl); simp only [Act.put, List.setIfInBounds_toArray, List.set_cons_zero, List.set_cons_succ])
                  (refine wpD_plain 26 (v := ?_) rfl (by kernel_rfl) (by kernel_rfl) (by kernel_rfl) (fun _ _ _ h => h) (by rfl) ?_ (by assumption) ?_; rotate_left; (intro _w; go_simp; try with_reducible rfl); simp only [Act.put, List.setIfInBounds_toArray, List.set_cons_zero, List.set_cons_succ])
                  (refine wpD_plain 27 (v := ?_) rfl (by kernel_rfl) (by kernel_rfl) (by kernel_rfl) (fun _ _ _ h => h) (by rfl) ?_ (by assumption) ?_; rotate_left; (intro _w; go_simp; try with_reducible rfl); simp only [Act.put, List.setIfInBounds_toArray, List.set_cons_zero, List.set_cons_succ])
                  refine wpD_only 2 [(4, fun w' => w'.cell? ⟨b12, 0, none⟩ = some (.int .u32 (S 0 : Int))), (8, fun w' => w'.cell? ⟨b12, 0, none⟩ = some (.int .u32 (S 0 : Int))), (12, fun w' => w'.cell? ⟨b12, 0, none⟩ = some (.int .u32 (S 0 : Int))), (14, fun w' => w'.cell? ⟨b12, 1, none⟩ = some (.int .u32 (S 1 : Int))), (17, fun w' => w'.cell? ⟨b12, 0, none⟩ = some (.int .u32 (S 0 : Int))), (19, fun w' => w'.cell? ⟨b12, 2, none⟩ = some (.int .u32 (S 2 : Int))), (23, fun w' => w'.cell? ⟨b12, 1, none⟩ = some (.int .u32 (S 1 : Int))), (25, fun w' => w'.cell? ⟨b12, 2, none⟩ = some (.int .u32 (S 2 : Int)))] rfl (by kernel_rfl) (by kernel_rfl) (by rfl) (fun K2 hK2 => ?_)
                  refine wp_call _ [_, _] _ rfl _ [] rfl (fun _ _ => by kernel_rfl) [.int .u32 (S 0 : Int), .int .i64 2] rfl ?_
                  refine (R_any (S 0) 2 _ HS0B.out (by decide) (by decide)).mono ?_
                  rintro e w' ⟨rfl, z3, rfl⟩
                  rw [HR2.out]
                  refine ⟨_, rfl, hK2 _ _ (Facts.cons_hold k0 (Facts.cons_hold k0 (Facts.cons_hold k0 (Facts.cons_hold k1 (Facts.cons_hold k0 (Facts.cons_hold k2 (Facts.cons_hold k1 (Facts.cons_hold k2 (Facts.nil_hold _))))))))) ?_⟩
                  clear hK2 K2
                  simp only [Act.put, List.setIfInBounds_toArray, List.set_cons_zero, List.set_cons_succ]
                  replace hold : Facts.hold [(4, fun w' => w'.cell? ⟨b12, 0, none⟩ = some (.int .u32 (S 0 : Int))), (8, fun w' => w'.cell? ⟨b12, 0, none⟩ = some (.int .u32 (S 0 : Int))), (12, fun w' => w'.cell? ⟨b12, 0, none⟩ = some (.int .u32 (S 0 : Int))), (14, fun w' => w'.cell? ⟨b12, 1, none⟩ = some (.int .u32 (S 1 : Int))), (17, fun w' => w'.cell? ⟨b12, 0, none⟩ = some (.int .u32 (S 0 : Int))), (19, fun w' => w'.cell? ⟨b12, 2, none⟩ = some (.int .u32 (S 2 : Int))), (23, fun w' => w'.cell? ⟨b12, 1, none⟩ = some (.int .u32 (S 1 : Int))), (25, fun w' => w'.cell? ⟨b12, 2, none⟩ = some (.int .u32 (S 2 : Int)))] ((((wr.drew.drewN z0).drewN z1).drewN z2).drew.drewN z3) := (Facts.cons_hold k0 (Facts.cons_hold k0 (Facts.cons_hold k0 (Facts.cons_hold k1 (Facts.cons_hold k0 (Facts.cons_hold k2 (Facts.cons_hold k1 (Facts.cons_hold k2 (Facts.nil_hold _)))))))))
                  refine wpD_only 5 [(8, fun w' => w'.cell? ⟨b12, 0, none⟩ = some (.int .u32 (S 0 : Int))), (12, fun w' => w'.cell? ⟨b12, 0, none⟩ = some (.int .u32 (S 0 : Int))), (14, fun w' => w'.cell? ⟨b12, 1, none⟩ = some (.int .u32 (S 1 : Int))), (17, fun w' => w'.cell? ⟨b12, 0, none⟩ = some (.int .u32 (S 0 : Int))), (19, fun w' => w'.cell? ⟨b12, 2, none⟩ = some (.int .u32 (S 2 : Int))), (23, fun w' => w'.cell? ⟨b12, 1, none⟩ = some (.int .u32 (S 1 : Int))), (25, fun w' => w'.cell? ⟨b12, 2, none⟩ = some (.int .u32 (S 2 : Int)))] rfl (by kernel_rfl) (by kernel_rfl) (by rfl) (fun K5 hK5 => ?_)
                  refine wp_call _ [_, _] _ rfl _ [] rfl (fun _ _ => by kernel_rfl) [.int .u32 (S 0 : Int), .int .i64 13] rfl ?_
                  refine (R_any (S 0) 13 _ HS0B.out (by decide) (by decide)).mono ?_
                  rintro e w' ⟨rfl, z4, rfl⟩
                  rw [HR13.out]
                  refine ⟨_, rfl, hK5 _ _ (Facts.cons_hold k0 (Facts.cons_hold k0 (Facts.cons_hold k1 (Facts.cons_hold k0 (Facts.cons_hold k2 (Facts.cons_hold k1 (Facts.cons_hold k2 (Facts.nil_hold _)))))))) ?_⟩
                  clear hK5 K5
                  simp only [Act.put, List.setIfInBounds_toArray, List.set_cons_zero, List.set_cons_succ]
                  replace hold : Facts.hold [(8, fun w' => w'.cell? ⟨b12, 0, none⟩ = some (.int .u32 (S 0 : Int))), (12, fun w' => w'.cell? ⟨b12, 0, none⟩ = some (.int .u32 (S 0 : Int))), (14, fun w' => w'.cell? ⟨b12, 1, none⟩ = some (.int .u32 (S 1 : Int))), (17, fun w' => w'.cell? ⟨b12, 0, none⟩ = some (.int .u32 (S 0 : Int))), (19, fun w' => w'.cell? ⟨b12, 2, none⟩ = some (.int .u32 (S 2 : Int))), (23, fun w' => w'.cell? ⟨b12, 1, none⟩ = some (.int .u32 (S 1 : Int))), (25, fun w' => w'.cell? ⟨b12, 2, none⟩ = some (.int .u32 (S 2 : Int)))] (((((wr.drew.drewN z0).drewN z1).drewN z2).drew.drewN z3).drewN z4) := (Facts.cons_hold k0 (Facts.cons_hold k0 (Facts.cons_hold k1 (Facts.cons_hold k0 (Facts.cons_hold k2 (Facts.cons_hold k1 (Facts.cons_hold k2 (Facts.nil_hold _))))))))
                  (refine wpD_plain 6 (v := ?_) rfl (by kernel_rfl) (by kernel_rfl) (by kernel_rfl) (fun _ _ _ h => h) (by rfl) ?_ (by assumption) ?_; rotate_left; (intro _w; go_simp; try with_reducible rfl); simp only [Act.put, List.setIfInBounds_toArray, List.set_cons_zero, List.set_cons_succ])
                  refine wpD_only 9 [(12, fun w' => w'.cell? ⟨b12, 0, none⟩ = some (.int .u32 (S 0 : Int))), (14, fun w' => w'.cell? ⟨b12, 1, none⟩ = some (.int .u32 (S 1 : Int))), (17, fun w' => w'.cell? ⟨b12, 0, none⟩ = some (.int .u32 (S 0 : Int))), (19, fun w' => w'.cell? ⟨b12, 2, none⟩ = some (.int .u32 (S 2 : Int))), (23, fun w' => w'.cell? ⟨b12, 1, none⟩ = some (.int .u32 (S 1 : Int))), (25, fun w' => w'.cell? ⟨b12, 2, none⟩ = some (.int .u32 (S 2 : Int)))] rfl (by kernel_rfl) (by kernel_rfl) (by rfl) (fun K9 hK9 => ?_)
                  refine wp_call _ [_, _] _ rfl _ [] rfl (fun _ _ => by kernel_rfl) [.int .u32 (S 0 : Int), .int .i64 22] rfl ?_
                  refine (R_any (S 0) 22 _ HS0B.out (by decide) (by decide)).mono ?_
                  rintro e w' ⟨rfl, z5, rfl⟩
                  rw [HR22.out]
                  refine ⟨_, rfl, hK9 _ _ (Facts.cons_hold k0 (Facts.cons_hold k1 (Facts.cons_hold k0 (Facts.cons_hold k2 (Facts.cons_hold k1 (Facts.cons_hold k2 (Facts.nil_hold _))))))) ?_⟩
                  clear hK9 K9
                  simp only [Act.put, List.setIfInBounds_toArray, List.set_cons_zero, List.set_cons_succ]
                  replace hold : Facts.hold [(12, fun w' => w'.cell? ⟨b12, 0, none⟩ = some (.int .u32 (S 0 : Int))), (14, fun w' => w'.cell? ⟨b12, 1, none⟩ = some (.int .u32 (S 1 : Int))), (17, fun w' => w'.cell? ⟨b12, 0, none⟩ = some (.int .u32 (S 0 : Int))), (19, fun w' => w'.cell? ⟨b12, 2, none⟩ = some (.int .u32 (S 2 : Int))), (23, fun w' => w'.cell? ⟨b12, 1, none⟩ = some (.int .u32 (S 1 : Int))), (25, fun w' => w'.cell? ⟨b12, 2, none⟩ = some (.int .u32 (S 2 : Int)))] ((((((wr.drew.drewN z0).drewN z1).drewN z2).drew.drewN z3).drewN z4).drewN z5) := (Facts.cons_hold k0 (Facts.cons_hold k1 (Facts.cons_hold k0 (Facts.cons_hold k2 (Facts.cons_hold k1 (Facts.cons_hold k2 (Facts.nil_hold _)))))))
                  (refine wpD_plain 10 (v := ?_) rfl (by kernel_rfl) (by kernel_rfl) (by kernel_rfl) (fun _ _ _ h => h) (by rfl) ?_ (by assumption) ?_; rotate_left; (intro _w; go_simp; try with_reducible rfl); simp only [Act.put, List.setIfInBounds_toArray, List.set_cons_zero, List.set_cons_succ])
                  (refine wpD_plain 28 (v := (.int .u32 (Y : Int))) rfl (by kernel_rfl) (by kernel_rfl) (by kernel_rfl) (fun _ _ _ h => h) (by rfl) ?_ (by assumption) ?_; (intro _w; go_simp; (have := HY.out; first | omega | (rw [IntKind.wrap_u32']; omega))); simp only [Act.put, List.setIfInBounds_toArray, List.set_cons_zero, List.set_cons_succ])
                  (refine wpD_plain 29 (v := ?_) rfl (by kernel_rfl) (by kernel_rfl) (by kernel_rfl) (fun _ _ _ h => h) (by rfl) ?_ (by assumption) ?_; rotate_left; (intro _w; go_simp; try with_reducible rfl); simp only [Act.put, List.setIfInBounds_toArray, List.set_cons_zero, List.set_cons_succ])
                  refine wpD_done (by kernel_rfl) ?_ _
                  clear hold
                  obtain ⟨W, hW⟩ : ∃ W, ((((((wr.drew.drewN z0).drewN z1).drewN z2).drew.drewN z3).drewN z4).drewN z5) = W := ⟨_, rfl⟩
                  have hfW : Fr No wr W := by rw [← hW]; exact (((((((Fr.refl No wr).drew).drewN z0).drewN z1).drewN z2).drew.drewN z3).drewN z4).drewN z5
                  rw [hW]
                  have HFW := hid hfW
                  have HB0 := hid (HRS.out.2.2.2.2.2.1.fr hfW id)
                  have l6 := blk_at HB0.out (i := 6) (by decide)
                  have a4 : (((S 3 : Nat) : Int) + (X : Int)) % 4294967296 = (((S 3 + X) % 4294967296 : Nat) : Int) := by omega
                  have a0 : ((X : Int) + (Y : Int)) % 4294967296 = (((X + Y) % 4294967296 : Nat) : Int) := by omega
                  have HA4 := hid a4; have HA0 := hid a0
                  clear hW hfW k0 k1 k2 k4 k5 k6 k7 kk km x1 x2 x3 x4 x5 x6 x7 x8 x9 x10 x11 x12 a4 a0
                  go_wp2_with (first
                    | ((with_reducible show wpList _ _ _ ({ dst := _, op := .store 40 _ _, type := _, pos := _, after := _, guard := _ } :: _) _ _); have := HB7; refine wpL_put rfl _ _ _ rfl b12 0 ((X + Y) % 4294967296) rfl (by first | rfl | exact congrArg (Value.int .u32) HA4.out | exact congrArg (Value.int .u32) HA0.out) _ (AR.upd (AR.upd (AR.upd (AR.upd (AR.upd (AR.upd (AR.upd (S) 7 (S 6)) 6 (S 5)) 5 (S 4)) 4 ((S 3 + X) % 4294967296)) 3 (S 2)) 2 (S 1)) 1 (S 0)) 8 HB7.out (by decide) infoW ?_; intro u8 HB8 HF8 HS8)
                    | ((with_reducible show wpList _ _ _ ({ dst := _, op := .store 40 _ _, type := _, pos := _, after := _, guard := _ } :: _) _ _); have := HB6; refine wpL_put rfl _ _ _ rfl b12 1 (S 0) rfl (by first | rfl | exact congrArg (Value.int .u32) HA4.out | exact congrArg (Value.int .u32) HA0.out) _ (AR.upd (AR.upd (AR.upd (AR.upd (AR.upd (AR.upd (S) 7 (S 6)) 6 (S 5)) 5 (S 4)) 4 ((S 3 + X) % 4294967296)) 3 (S 2)) 2 (S 1)) 8 HB6.out (by decide) infoW ?_; intro u7 HB7 HF7 HS7)
                    | ((with_reducible show wpList _ _ _ ({ dst := _, op := .store 40 _ _, type := _, pos := _, after := _, guard := _ } :: _) _ _); have := HB5; refine wpL_put rfl _ _ _ rfl b12 2 (S 1) rfl (by first | rfl | exact congrArg (Value.int .u32) HA4.out | exact congrArg (Value.int .u32) HA0.out) _ (AR.upd (AR.upd (AR.upd (AR.upd (AR.upd (S) 7 (S 6)) 6 (S 5)) 5 (S 4)) 4 ((S 3 + X) % 4294967296)) 3 (S 2)) 8 HB5.out (by decide) infoW ?_; intro u6 HB6 HF6 HS6; have m0 : u6.cell? ⟨b12, 0, none⟩ = some (.int .u32 (S 0 : Int)) := blk_at HB6.out (i := 0) (by decide))
                    | ((with_reducible show wpList _ _ _ ({ dst := _, op := .store 40 _ _, type := _, pos := _, after := _, guard := _ } :: _) _ _); have := HB4; refine wpL_put rfl _ _ _ rfl b12 3 (S 2) rfl (by first | rfl | exact congrArg (Value.int .u32) HA4.out | exact congrArg (Value.int .u32) HA0.out) _ (AR.upd (AR.upd (AR.upd (AR.upd (S) 7 (S 6)) 6 (S 5)) 5 (S 4)) 4 ((S 3 + X) % 4294967296)) 8 HB4.out (by decide) infoW ?_; intro u5 HB5 HF5 HS5; have m1 : u5.cell? ⟨b12, 1, none⟩ = some (.int .u32 (S 1 : Int)) := blk_at HB5.out (i := 1) (by decide))
                    | ((with_reducible show wpList _ _ _ ({ dst := _, op := .store 40 _ _, type := _, pos := _, after := _, guard := _ } :: _) _ _); have := HB3; refine wpL_put rfl _ _ _ rfl b12 4 ((S 3 + X) % 4294967296) rfl (by first | rfl | exact congrArg (Value.int .u32) HA4.out | exact congrArg (Value.int .u32) HA0.out) _ (AR.upd (AR.upd (AR.upd (S) 7 (S 6)) 6 (S 5)) 5 (S 4)) 8 HB3.out (by decide) infoW ?_; intro u4 HB4 HF4 HS4; have m2 : u4.cell? ⟨b12, 2, none⟩ = some (.int .u32 (S 2 : Int)) := blk_at HB4.out (i := 2) (by decide))
                    | ((with_reducible show wpList _ _ _ ({ dst := _, op := .store 40 _ _, type := _, pos := _, after := _, guard := _ } :: _) _ _); have := HB2; refine wpL_put rfl _ _ _ rfl b12 5 (S 4) rfl (by first | rfl | exact congrArg (Value.int .u32) HA4.out | exact congrArg (Value.int .u32) HA0.out) _ (AR.upd (AR.upd (S) 7 (S 6)) 6 (S 5)) 8 HB2.out (by decide) infoW ?_; intro u3 HB3 HF3 HS3; have m3 : u3.cell? ⟨b12, 3, none⟩ = some (.int .u32 (S 3 : Int)) := blk_at HB3.out (i := 3) (by decide))
                    | ((with_reducible show wpList _ _ _ ({ dst := _, op := .store 40 _ _, type := _, pos := _, after := _, guard := _ } :: _) _ _); have := HB1; refine wpL_put rfl _ _ _ rfl b12 6 (S 5) rfl (by first | rfl | exact congrArg (Value.int .u32) HA4.out | exact congrArg (Value.int .u32) HA0.out) _ (AR.upd (S) 7 (S 6)) 8 HB1.out (by decide) infoW ?_; intro u2 HB2 HF2 HS2; have m4 : u2.cell? ⟨b12, 4, none⟩ = some (.int .u32 (S 4 : Int)) := blk_at HB2.out (i := 4) (by decide))
                    | ((with_reducible show wpList _ _ _ ({ dst := _, op := .store 40 _ _, type := _, pos := _, after := _, guard := _ } :: _) _ _); have := HB0; refine wpL_put rfl _ _ _ rfl b12 7 (S 6) rfl (by first | rfl | exact congrArg (Value.int .u32) HA4.out | exact congrArg (Value.int .u32) HA0.out) _ (S) 8 HB0.out (by decide) infoW ?_; intro u1 HB1 HF1 HS1; have m5 : u1.cell? ⟨b12, 5, none⟩ = some (.int .u32 (S 5 : Int)) := blk_at HB1.out (i := 5) (by decide))
                    | fail)
                  have hf8 : Fr (fun k => k = b12) wr u8 := ((((((((HFW.out.no.trans' HF1.out).trans' HF2.out).trans' HF3.out).trans' HF4.out).trans' HF5.out).trans' HF6.out).trans' HF7.out).trans' HF8.out)
                  have hb8 := HB8.out
                  rw [bw_congr (show ∀ i, i < 8 → (AR.upd (AR.upd (AR.upd (AR.upd (AR.upd (AR.upd (AR.upd (AR.upd (S) 7 (S 6)) 6 (S 5)) 5 (S 4)) 4 ((S 3 + X) % 4294967296)) 3 (S 2)) 2 (S 1)) 1 (S 0)) 0 ((X + Y) % 4294967296)) i = rds M (hs p n) (j + 1) i from fun i hi => by
                    show _ = rd (kc j) (M j) (rds M (hs p n) j) i
                    rw [HS.out]
                    have : i = 0 ∨ i = 1 ∨ i = 2 ∨ i = 3 ∨ i = 4 ∨ i = 5 ∨ i = 6 ∨ i = 7 := by omega
                    rcases this with rfl | rfl | rfl | rfl | rfl | rfl | rfl | rfl <;> first | rfl | (show (X + Y) % 4294967296 = (rx (kc j) (M j) S + ry S) % 4294967296; rw [HXE.out, HYE.out]) | (show (S 3 + X) % 4294967296 = (S 3 + rx (kc j) (M j) S) % 4294967296; rw [HXE.out]))] at hb8
                  have HR' := hid (show Blk u8 b2 24 (bw .u8 (fun _ => 0) 32) ∧ Src u8 g p ∧ Blk u8 b4 41 (bw .u32 (hs p n) 8) ∧ Blk u8 b5 43 (bw .u32 kc 64) ∧ Blk u8 b7 43 (bw .u32 M 64) ∧ Blk u8 b12 41 (bw .u32 (rds M (hs p n) (j + 1)) 8) ∧ Fr No w u8 by
                    have hn12 := HN12.out
                    exact ⟨HRS.out.1.fr hf8 (by omega), HRS.out.2.1.fr hf8 (by omega), HRS.out.2.2.1.fr hf8 (by omega), HRS.out.2.2.2.1.fr hf8 (by omega), HRS.out.2.2.2.2.1.fr hf8 (by omega), hb8, HRS.out.2.2.2.2.2.2.trans hf8 fun i e => .inr (by have : i = b12 := e; omega)⟩)
                  clear HRS HFW hf8 hb8 HA4 HA0 HX HY HXE HYE HF1 HS1 HB0 HF2 HS2 HB1 HF3 HS3 HB2 HF4 HS4 HB3 HF5 HS5 HB4 HF6 HS6 HB5 HF7 HS7 HB6 HF8 HS8 HB7 HB8
                  go_wp2_with fail
                  go_roundw
                  case rel => exact ⟨j + 1, by omega, by go_num, HR'⟩
                  case measure => simp [intOf]; omega
                · obtain rfl : j = 64 := by omega
                  go_wp2_with fail
                  go_loopw [16] (fun i wr => ∃ j : Nat, j ≤ 8 ∧ i = .int .i64 j ∧ Hid (Blk wr b2 24 (bw .u8 (fun _ => 0) 32) ∧ Src wr g p ∧ Blk wr b4 41 (bw .u32 (upto j (hs p (n + 1)) (hs p n)) 8) ∧ Blk wr b5 43 (bw .u32 kc 64) ∧ Blk wr b7 43 (bw .u32 M 64) ∧ Blk wr b12 41 (bw .u32 (rds M (hs p n) 64) 8) ∧ Fr No w wr)) (fun i _ => 8 - (intOf i).toNat)
                  case atStart => exact ⟨0, by omega, rfl, by rw [upto_zero]; exact HR⟩
                  case round =>
                    clear HR
                    obtain ⟨j, hj, rfl, HR⟩ := hrel
                    by_cases hlt5 : j < 8
                    · as_aux_lemma =>
                      have c1 := blk_at HR.out.2.2.1 hlt5
                      have c2 := blk_at HR.out.2.2.2.2.2.1 hlt5
                      rw [upto_get _ _ (Nat.le_refl j)] at c1
                      have hv : hs p (n + 1) j = (hs p n j + rds M (hs p n) 64 j) % 4294967296 := by rw [← HM.out]; exact comp_def _ _ j
                      obtain ⟨ha, e1⟩ : ∃ x, hs p n j = x := ⟨_, rfl⟩
                      obtain ⟨hc, e2⟩ : ∃ x, rds M (hs p n) 64 j = x := ⟨_, rfl⟩
                      obtain ⟨V, e3⟩ : ∃ x, hs p (n + 1) j = x := ⟨_, rfl⟩
                      rw [e1] at c1 hv; rw [e2] at c2 hv; rw [e3] at hv
                      have HV := hid hv; have E3 := hid e3
                      clear hv e1 e2 e3
                      go_wp2_with fail
                      have hold : Facts.hold [(3, fun w' => w'.cell? ⟨b4, j, none⟩ = some (.int .u32 (ha : Int))), (6, fun w' => w'.cell? ⟨b12, j, none⟩ = some (.int .u32 (hc : Int)))] wr.drew := Facts.cons_hold c1 (Facts.cons_hold c2 (Facts.nil_hold _))
                      clear c1 c2
                      refine wpD_region hold (by kernel_rfl) 10 rfl ?_
                      (refine wpD_plain 0 (v := ?_) rfl (by kernel_rfl) (by kernel_rfl) (by kernel_rfl) (fun _ _ _ h => h) (by rfl) ?_ (by assumption) ?_; rotate_left; (intro _w; go_simp; try with_reducible rfl); simp only [Act.put, List.setIfInBounds_toArray, List.set_cons_zero, List.set_cons_succ])
                      (refine wpD_plain 1 (v := ?_) rfl (by kernel_rfl) (by kernel_rfl) (by kernel_rfl) (fun _ _ _ h => h) (by rfl) ?_ (by assumption) ?_; rotate_left; (intro _w; go_simp; try with_reducible rfl); simp only [Act.put, List.setIfInBounds_toArray, List.set_cons_zero, List.set_cons_succ])
                      (refine wpD_plain 2 (v := ?_) rfl (by kernel_rfl) (by kernel_rfl) (by kernel_rfl) (fun _ _ _ h => h) (by rfl) ?_ (by assumption) ?_; rotate_left; (intro _w; go_simp; try with_reducible rfl); simp only [Act.put, List.setIfInBounds_toArray, List.set_cons_zero, List.set_cons_succ])
                      (refine wpD_take 3 _ rfl (by kernel_rfl) (by kernel_rfl) (by kernel_rfl) (fun _ _ _ h => h) List.mem_cons_self (by rfl) (v := ?_) ?_ (by assumption) ?_; rotate_left; (intro _w _hw; go_simp; try with_reducible rfl); simp only [Act.put, List.setIfInBounds_toArray, List.set_cons_zero, List.set_cons_succ])
                      (refine wpD_plain 4 (v := ?_) rfl (by kernel_rfl) (by kernel_rfl) (by kernel_rfl) (fun _ _ _ h => h) (by rfl) ?_ (by assumption) ?_; rotate_left; (intro _w; go_simp; try with_reducible rfl); simp only [Act.put, List.setIfInBounds_toArray, List.set_cons_zero, List.set_cons_succ])
                      (refine wpD_plain 5 (v := ?_) rfl (by kernel_rfl) (by kernel_rfl) (by kernel_rfl) (fun _ _ _ h => h) (by rfl) ?_ (by assumption) ?_; rotate_left; (intro _w; go_simp; try with_reducible rfl); simp only [Act.put, List.setIfInBounds_toArray, List.set_cons_zero, List.set_cons_succ])
                      (refine wpD_take 6 _ rfl (by kernel_rfl) (by kernel_rfl) (by kernel_rfl) (fun _ _ _ h => h) (List.mem_cons_of_mem _ List.mem_cons_self) (by rfl) (v := ?_) ?_ (by assumption) ?_; rotate_left; (intro _w _hw; go_simp; try with_reducible rfl); simp only [Act.put, List.setIfInBounds_toArray, List.set_cons_zero, List.set_cons_succ])
                      (refine wpD_plain 7 (v := (.int .u32 (V : Int))) rfl (by kernel_rfl) (by kernel_rfl) (by kernel_rfl) (fun _ _ _ h => h) (by rfl) ?_ (by assumption) ?_; (intro _w; go_simp; (have := HV.out; first | omega | (rw [IntKind.wrap_u32']; omega))); simp only [Act.put, List.setIfInBounds_toArray, List.set_cons_zero, List.set_cons_succ])
                      (refine wpD_plain 8 (v := ?_) rfl (by kernel_rfl) (by kernel_rfl) (by kernel_rfl) (fun _ _ _ h => h) (by rfl) ?_ (by assumption) ?_; rotate_left; (intro _w; go_simp; try with_reducible rfl); simp only [Act.put, List.setIfInBounds_toArray, List.set_cons_zero, List.set_cons_succ])
                      refine wpD_only 9 [] rfl (by kernel_rfl) (by kernel_rfl) (by rfl) (fun KS hKS => ?_)
                      refine wp_put _ _ _ rfl b4 j V rfl rfl _ _ 8 HR.out.2.2.1.drew hlt5 infoW ?_
                      intro w5 HB5 HF5 HS5
                      refine hKS _ _ (Facts.nil_hold _) ?_
                      clear hKS KS
                      simp only [Act.put, List.setIfInBounds_toArray, List.set_cons_zero, List.set_cons_succ]
                      refine wpD_done (by kernel_rfl) ?_ _
                      have hb5 := HB5.out
                      rw [← E3.out, upto_set] at hb5
                      have hf5 := (Fr.refl (fun k => k = b4) wr).drew.trans' HF5.out
                      have HR' := hid (show Blk w5 b2 24 (bw .u8 (fun _ => 0) 32) ∧ Src w5 g p ∧ Blk w5 b4 41 (bw .u32 (upto (j + 1) (hs p (n + 1)) (hs p n)) 8) ∧ Blk w5 b5 43 (bw .u32 kc 64) ∧ Blk w5 b7 43 (bw .u32 M 64) ∧ Blk w5 b12 41 (bw .u32 (rds M (hs p n) 64) 8) ∧ Fr No w w5 by
                        have hn := HN.out
                        have hn7 := HN7.out
                        have hn12 := HN12.out
                        exact ⟨HR.out.1.fr hf5 (by omega), HR.out.2.1.fr hf5 (by omega), hb5, HR.out.2.2.2.1.fr hf5 (by omega), HR.out.2.2.2.2.1.fr hf5 (by omega), HR.out.2.2.2.2.2.1.fr hf5 (by omega), HR.out.2.2.2.2.2.2.trans hf5 fun i e => .inr (by have : i = b4 := e; omega)⟩)
                      clear HR HB5 HF5 HS5 hold hb5 hf5
                      go_wp2_with fail
                      go_roundw
                      case rel => exact ⟨j + 1, by omega, by go_num, HR'⟩
                      case measure => simp [intOf]; omega
                    · obtain rfl : j = 8 := by omega
                      have hr := HR.out
                      rw [upto_all] at hr
                      have HR' := hid (show Blk wr b2 24 (bw .u8 (fun _ => 0) 32) ∧ Src wr g p ∧ Blk wr b4 41 (bw .u32 (hs p (n + 1)) 8) ∧ Blk wr b5 43 (bw .u32 kc 64) ∧ Fr No w wr from ⟨hr.1, hr.2.1, hr.2.2.1, hr.2.2.2.1, hr.2.2.2.2.2.2⟩)
                      clear HR hr
                      have hA64 : ((A : Int) + 64) = ((64 * (n + 1) : Nat) : Int) := by have := HA.out; omega
                      go_wp2_with fail
                      go_roundw
                      case rel => exact ⟨n + 1, by omega, by first | rw [hA64] | rw [show (64 : Int) * ((n : Int) + 1) = ((64 * (n + 1) : Nat) : Int) by omega], HR'⟩
                      case measure => simp [intOf]; omega
    · obtain rfl : n = N := by omega
      have hge : ¬ ((64 * n : Nat) : Int) < (p.length : Int) := by have := HNN.out; omega
      have hdig : ∀ j, dig l j = hs p n (j / 4) / 2 ^ (24 - j % 4 * 8) % 256 := fun j => by
        unfold dig
        rw [HPL.out, show p.length / 64 = n by have := HNN.out; omega]
      have HD := hid hdig
      clear hdig
      go_wp2_with (first
        | ((with_reducible show wpList _ _ _ ({ dst := _, op := .alloc 24, type := _, pos := _, after := _, guard := _ } :: _) _ _); refine wpL_alloc rfl _ rfl _ zero32b (bw .u8 (fun _ => 0) 32) rfl ?_; intro w7 HB7 HF7 HS7)
        | fail)
      obtain ⟨b7, hb7⟩ : ∃ b, wr.heap.size = b := ⟨_, rfl⟩
      have hB7 := HB7.out
      have l5 := HR.out.2.2.2.1.lt
      rw [hb7] at hB7 l5
      rw [hb7]
      have HN7 := hid (show b2 < b7 ∧ b4 < b7 ∧ w.heap.size ≤ b7 by have := HN.out; omega)
      have HR' := hid (show Blk w7 b2 24 (bw .u8 (fun _ => 0) 32) ∧ Blk w7 b4 41 (bw .u32 (hs p n) 8) ∧ Blk w7 b7 24 (bw .u8 (upto 0 (dig l) fun _ => 0) 32) ∧ Fr No w w7 by
        rw [upto_zero]
        exact ⟨HR.out.1.fr HF7.out id, HR.out.2.2.1.fr HF7.out id, hB7, HR.out.2.2.2.2.trans' HF7.out⟩)
      clear HR HB7 HF7 HS7 hb7 hB7 l5
      have HR := HR'
      clear HR' hge
      go_wp2_with fail
      go_loopw [18] (fun i wr => ∃ j : Nat, j ≤ 32 ∧ i = .int .i64 j ∧ Hid (Blk wr b2 24 (bw .u8 (fun _ => 0) 32) ∧ Blk wr b4 41 (bw .u32 (hs p n) 8) ∧ Blk wr b7 24 (bw .u8 (upto j (dig l) fun _ => 0) 32) ∧ Fr No w wr)) (fun i _ => 32 - (intOf i).toNat)
      case atStart => exact ⟨0, by omega, rfl, HR⟩
      case round =>
        clear HR
        obtain ⟨j, hj, rfl, HR⟩ := hrel
        by_cases hlt2 : j < 32
        · have c1 := blk_at HR.out.2.1 (i := j / 4) (by omega)
          have hd := HD.out j
          obtain ⟨ha, e1⟩ : ∃ x, hs p n (j / 4) = x := ⟨_, rfl⟩
          rw [e1] at c1 hd
          have hv : ((ha : Int) / 2 ^ (24 - j % 4 * 8) % 256) = ((dig l j : Nat) : Int) := by rw [hd]; simp
          have HV := hid hv
          clear hv hd e1
          go_wp2_with (first
            | ((with_reducible show wpList _ _ _ ({ dst := _, op := .store 5 _ _, type := _, pos := _, after := _, guard := _ } :: _) _ _); refine wpL_put rfl _ _ _ rfl b7 j (dig l j) rfl (by first | exact congrArg (Value.int .u8) HV.out | rfl) _ _ 32 HR.out.2.2.1 hlt2 infoU8 ?_; intro w5 HB5 HF5 HS5)
            | ((with_reducible show wpList _ _ _ ({ dst := _, op := .store 5 _ _, type := _, pos := _, after := _, guard := _ } :: _) _ _); refine Hid.out ?_)
            | fail)
          have HR' := hid (show Blk w5 b2 24 (bw .u8 (fun _ => 0) 32) ∧ Blk w5 b4 41 (bw .u32 (hs p n) 8) ∧ Blk w5 b7 24 (bw .u8 (upto (j + 1) (dig l) fun _ => 0) 32) ∧ Fr No w w5 by
            have hn7 := HN7.out
            rw [← upto_set]
            exact ⟨HR.out.1.fr HF5.out (by omega), HR.out.2.1.fr HF5.out (by omega), HB5.out, HR.out.2.2.2.trans HF5.out fun i e => .inr (by have : i = b7 := e; omega)⟩)
          clear HR HB5 HF5 HS5 c1
          go_wp2_with fail
          go_roundw
          case rel => exact ⟨j + 1, by omega, by go_num, HR'⟩
          case measure => simp [intOf]; omega
        · obtain rfl : j = 32 := by omega
          go_wp2_with (first
            | ((with_reducible show wpList _ _ _ ({ dst := _, op := .load 24 _, type := _, pos := _, after := _, guard := _ } :: _) _ _); refine wpL_all rfl _ _ rfl b7 rfl _ (upto 32 (dig l) fun _ => 0) 32 _ HR.out.2.2.1 rfl rfl info32b ?_)
            | ((with_reducible show wpList _ _ _ ({ dst := _, op := .store 24 _ _, type := _, pos := _, after := _, guard := _ } :: _) _ _); refine wpL_whole rfl _ _ _ rfl b2 (upto 32 (dig l) fun _ => 0) 32 rfl rfl _ _ HR.out.1 info32b ?_; intro w5 HB5 HF5 HS5)
            | fail)
          have hB5 := HB5.out
          rw [upto_all] at hB5
          refine ret_cell rfl _ rfl hB5 rfl rfl (by simpa using info32b) rfl ?_
          exact ⟨rfl, HR.out.2.2.2.trans HF5.out fun i e => .inr (by have := HN.out; have : i = b2 := e; omega)⟩
end Go.Proofs.YtejbanlhgnlliaaDoor.SH
