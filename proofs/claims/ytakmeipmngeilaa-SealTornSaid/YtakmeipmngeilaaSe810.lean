/-
  Part 10 of the proof: SeC, SeT, SeO.
-/
import Derived.Test.YtakmeipmngeilaaSe809
set_option linter.unusedVariables false
set_option linter.unusedSimpArgs false
set_option linter.unusedSectionVars false
namespace Go.Proofs.Ytakmeipmngeilaa.SE
set_option maxRecDepth 100000
open Go.RowKit K
variable [SH.Tab]

/-- m bytes put together with the stream's, the others as they were. -/
def mix (ek : Nat → Nat) (n : S) (t : List UInt8) (m : Nat) : List UInt8 := (cmb ek n t).take m ++ t.drop m
theorem mix_zero (ek : Nat → Nat) (n : S) (t : List UInt8) : mix ek n t 0 = t := by simp [mix]
theorem mix_all (ek : Nat → Nat) (n : S) (t : List UInt8) : mix ek n t t.length = cmb ek n t := by
  unfold mix
  rw [List.drop_length, List.append_nil, List.take_of_length_le (by rw [cmb_length]; exact Nat.le_refl _)]
theorem mix_length (ek : Nat → Nat) (n : S) (t : List UInt8) {m : Nat} (h : m ≤ t.length) : (mix ek n t m).length = t.length := by
  unfold mix; rw [List.length_append, List.length_take, cmb_length, List.length_drop]; omega
theorem mix_at (ek : Nat → Nat) (n : S) (t : List UInt8) {m : Nat} (h : m < t.length) : (mix ek n t m)[m]? = some t[m] := by
  unfold mix
  rw [List.getElem?_append_right (by rw [List.length_take, cmb_length]; omega), List.length_take, cmb_length, List.getElem?_drop, show m + (m - min m t.length) = m by omega]
  exact List.getElem?_eq_getElem h
theorem mix_set (ek : Nat → Nat) (n : S) (t : List UInt8) {m : Nat} (h : m < t.length) : (mix ek n t m).set m (t[m] ^^^ UInt8.ofNat (blkS ek n (m / 16) (m % 16))) = mix ek n t (m + 1) := by
  have hc : (cmb ek n t)[m]'(by rw [cmb_length]; exact h) = t[m] ^^^ UInt8.ofNat (blkS ek n (m / 16) (m % 16)) := by
    have := cmb_get ek n t h
    rw [List.getD_eq_getElem?_getD, List.getD_eq_getElem?_getD, List.getElem?_eq_getElem (by rw [cmb_length]; exact h), List.getElem?_eq_getElem h] at this
    exact this
  unfold mix
  rw [List.set_append_right _ _ (by rw [List.length_take, cmb_length]; omega), List.length_take, cmb_length, show m - min m t.length = 0 by omega, List.drop_eq_getElem_cons h, List.set_cons_zero,
    List.take_succ_eq_append_getElem (by rw [cmb_length]; exact h), hc, List.append_assoc]
  rfl
/-- The block that lies there ahead of byte m. -/
def blkAt (ek : Nat → Nat) (n : S) (m : Nat) : Nat → Nat := if m = 0 then fun _ => 0 else blkS ek n ((m - 1) / 16)
theorem blkAt_next (ek : Nat → Nat) (n : S) (m : Nat) : blkAt ek n (m + 1) = blkS ek n (m / 16) := by unfold blkAt; rw [if_neg (by omega)]; rfl
theorem blkAt_same (ek : Nat → Nat) (n : S) {m : Nat} (h : m % 16 ≠ 0) : blkAt ek n m = blkS ek n (m / 16) := by
  unfold blkAt; rw [if_neg (by omega), show (m - 1) / 16 = m / 16 by omega]
theorem blkS_lt (k : Ky) (n : S) (i : Nat) : AE.By (blkS k.ek n i) := enc_lt k.hek (nx_lt n i)
theorem xor_byte (a : UInt8) (v : Nat) (hv : v < 256) : bits .xor .u8 (a.toNat : Int) (v : Int) = (((a ^^^ UInt8.ofNat v).toNat : Nat) : Int) := by
  rw [AE.xor8 a.toNat_lt hv, UInt8.toNat_xor, UInt8.toNat_ofNat', Nat.mod_eq_of_lt hv]

set_option maxHeartbeats 2000000 in
theorem combine_any (k : Ky) (n t : S) (hn : n.size = 8) (ht : t.size ≤ 1000000) (w : World) : Calls Try.prog 63 #[k.val, .string n, .string t] w fun e w' =>
    e = .returned (.string (sb (cmb k.ek n t.data.toList))) ∧ Fr No w w' := by
  have HN := hid hn
  obtain ⟨L, hL⟩ : ∃ L, t.data.toList = L := ⟨_, rfl⟩
  have hLz : L.length = t.size := by rw [← hL, size_list]
  have HL := hid hL; have HLz := hid hLz
  have hti : (t.size : Int) ≤ 1000000 := by omega
  rw [hL]
  clear hn ht hL hLz
  go_enter Try.func63, Try.ntmps63
  go_wp2_with (first
    | ((with_reducible show wpList _ _ _ (⟨_, .box 59 _, _, _, _, _⟩ :: _) _ _); refine wpL_box rfl _ _ rfl k.val rfl k.cells rfl ?_; intro w1 HB1 HF1 HS1)
    | ((with_reducible show wpList _ _ _ (⟨_, .convert _ 38 _, _, _, _, _⟩ :: _) _ _); refine wpL_bytesM rfl _ _ _ rfl t rfl Try.underlying9 Try.underlying38 ?_; intro c2 w2 HB2 HF2 HS2)
    | ((with_reducible show wpList _ _ _ (⟨_, .alloc 57, _, _, _, _⟩ :: _) _ _); refine wpL_alloc rfl _ rfl _ AE.zero16 (AE.b8 (fun _ => 0) 16) rfl ?_; intro w3 HB3 HF3 HS3)
    | fail)
  obtain ⟨b1, hb1⟩ : ∃ b, w.heap.size = b := ⟨_, rfl⟩
  obtain ⟨b2, hb2⟩ : ∃ b, w1.heap.size = b := ⟨_, rfl⟩
  obtain ⟨b3, hb3⟩ : ∃ b, w2.heap.size = b := ⟨_, rfl⟩
  have HLT := hid (show b1 < b2 ∧ b2 < b3 ∧ w.heap.size = b1 by have := HS1.out; have := HS2.out; omega)
  have hB2 := HB2.out
  rw [HL.out] at hB2
  have HR := hid (show Blk w3 b1 59 k.cells ∧ MkB w3 b2 c2 (mix k.ek n L 0) ∧ Blk w3 b3 57 (AE.b8 (blkAt k.ek n 0) 16) ∧ Fr No w w3 by
    rw [← hb1, ← hb2, ← hb3, mix_zero]
    exact ⟨(HB1.out.fr HF2.out id).fr HF3.out id, hB2.fr HF3.out id, HB3.out, (HF1.out.trans' HF2.out).trans' HF3.out⟩)
  rw [hb2, hb3, hb1]
  clear HB1 HF1 HS1 HB2 HF2 HS2 HB3 HF3 HS3 hb1 hb2 hb3 hB2
  go_wp2_with fail
  go_loopw [14] (fun i wr => ∃ m : Nat, m ≤ t.size ∧ i = .int .i64 m ∧ Hid (Blk wr b1 59 k.cells ∧ MkB wr b2 c2 (mix k.ek n L m) ∧ Blk wr b3 57 (AE.b8 (blkAt k.ek n m) 16) ∧ Fr No w wr)) (fun i _ => t.size - (intOf i).toNat)
  case atStart => exact ⟨0, Nat.zero_le _, rfl, HR⟩
  case round =>
    clear HR
    obtain ⟨m, hm, rfl, HR⟩ := hrel
    by_cases hlt : m < t.size
    · have hltI : (m : Int) < (t.size : Int) := by omega
      obtain ⟨q, hq⟩ : ∃ q, m / 16 = q := ⟨_, rfl⟩
      obtain ⟨r, hr⟩ : ∃ r, m % 16 = r := ⟨_, rfl⟩
      have hr16 : r < 16 := by omega
      have hqm : q ≤ 1000000 := by omega
      have HQ := hid hq; have HRr := hid hr; have HR16 := hid hr16; have HQM := hid hqm
      have hmL : m < L.length := by have := HLz.out; omega
      have hlen := mix_length k.ek n L (m := m) (by omega)
      have hat := mix_at k.ek n L hmL
      have hset := mix_set k.ek n L hmL
      obtain ⟨x, hx⟩ : ∃ x, L[m]'hmL = x := ⟨_, rfl⟩
      rw [hx] at hat hset
      rw [hq, hr] at hset
      have HC2C : Hid (∀ w' : World, MkB w' b2 c2 (mix k.ek n L m) → w'.cell? ⟨b2, m, none⟩ = some (.int .u8 (x.toNat : Int))) := hid (fun w' h => by
        have h1 := h.cell (j := m) (by rw [hlen]; exact hmL)
        rw [List.getElem?_eq_getElem (by rw [hlen]; exact hmL)] at hat
        rw [h1, Option.some.inj hat])
      have HSET := hid hset; have HLEN := hid hlen; have HML := hid hmL
      have hm2 : (m : Int) % 16 = (r : Int) := by omega
      have hd2 : (m : Int) / 16 = (q : Int) := by omega
      have HM2 := hid hm2; have HD2 := hid hd2
      have HXR := hid (xor_byte x (blkS k.ek n q r) (blkS_lt k n q r))
      have hri : (r : Int) < 16 := by omega
      have hsame := blkAt_same k.ek n (m := m)
      rw [hq, hr] at hsame
      have HSAME := hid hsame
      clear hq hr hr16 hqm hmL hlen hat hset hx hlt hm2 hd2 hsame
      by_cases hr0 : r = 0
      · have hc : ((m : Int) % 16 == 0) = true := by rw [HM2.out, hr0]; rfl
        have HR0 := hid hr0
        clear hr0
        go_wp2_with (first
          | ((with_reducible show wpList _ _ _ (⟨_, .load 59 _, _, _, _, _⟩ :: _) _ _); refine wpL_load rfl _ _ rfl b1 0 rfl k.cells _ (HR.out.1.range 0 _ (by rw [List.drop_zero, List.take_length])) Try.underlying59 rfl (by simpa [Ky.cells_length] using infoKy) ?_)
          | fail)
        rw [HD2.out]
        refine (streamed_any k n HN.out q (by have := HQM.out; omega) _).mono ?_
        rintro e w4 ⟨rfl, hf4⟩
        have HR4 := hid (show Blk w4 b1 59 k.cells ∧ MkB w4 b2 c2 (mix k.ek n L m) ∧ Blk w4 b3 57 (AE.b8 (blkAt k.ek n m) 16) ∧ Fr No w w4 from
          ⟨HR.out.1.fr hf4 id, HR.out.2.1.fr hf4 id, HR.out.2.2.1.fr hf4 id, HR.out.2.2.2.trans' hf4⟩)
        clear HR hf4
        go_wp2_with (first
          | ((with_reducible show wpList _ _ _ (⟨_, .store 57 _ _, _, _, _, _⟩ :: _) _ _); refine AE.wpL_whole rfl _ _ _ rfl b3 (blkS k.ek n q) 16 rfl rfl _ _ HR4.out.2.2.1 AE.info16 ?_; intro w5 HB5 HF5 HS5)
          | fail)
        have HR5 := hid (show Blk w5 b1 59 k.cells ∧ MkB w5 b2 c2 (mix k.ek n L m) ∧ Blk w5 b3 57 (AE.b8 (blkS k.ek n q) 16) ∧ Fr No w w5 from
          ⟨HR4.out.1.fr HF5.out (fun e => by have := HLT.out; have : b1 = b3 := e; omega), HR4.out.2.1.fr HF5.out (fun e => by have := HLT.out; have : b2 = b3 := e; omega), HB5.out, HR4.out.2.2.2.trans HF5.out fun i e => .inr (by have := HLT.out; have : i = b3 := e; omega)⟩)
        clear HR4 HB5 HF5 HS5
        have c2c := HC2C.out _ HR5.out.2.1
        have c3c := AE.blk_at HR5.out.2.2.1 (i := r) HR16.out
        have hold : Facts.hold [(3, fun w' => w'.cell? ⟨b2, m, none⟩ = some (.int .u8 (x.toNat : Int))), (7, fun w' => w'.cell? ⟨b3, r, none⟩ = some (.int .u8 (blkS k.ek n q r : Int)))] w5.drew := Facts.cons_hold c2c (Facts.cons_hold c3c (Facts.nil_hold _))
        refine wpD_region hold (by kernel_rfl) 11 rfl ?_
        (refine wpD_plain 0 (v := ?_) rfl (by kernel_rfl) (by kernel_rfl) (by kernel_rfl) (fun _ _ _ h => h) (by rfl) ?_ (by assumption) ?_; rotate_left; (intro _w; go_simp; try with_reducible rfl); simp only [Act.put, List.setIfInBounds_toArray, List.set_cons_zero, List.set_cons_succ])
        (refine wpD_plain 1 (v := ?_) rfl (by kernel_rfl) (by kernel_rfl) (by kernel_rfl) (fun _ _ _ h => h) (by rfl) ?_ (by assumption) ?_; rotate_left; (intro _w; go_simp; try with_reducible rfl); simp only [Act.put, List.setIfInBounds_toArray, List.set_cons_zero, List.set_cons_succ])
        (refine wpD_plain 2 (v := ?_) rfl (by kernel_rfl) (by kernel_rfl) (by kernel_rfl) (fun _ _ _ h => h) (by rfl) ?_ (by assumption) ?_; rotate_left; (intro _w; go_simp; try with_reducible rfl); simp only [Act.put, List.setIfInBounds_toArray, List.set_cons_zero, List.set_cons_succ])
        (refine wpD_take 3 _ rfl (by kernel_rfl) (by kernel_rfl) (by kernel_rfl) (fun _ _ _ h => h) List.mem_cons_self (by rfl) (v := ?_) ?_ (by assumption) ?_; rotate_left; (intro _w _hw; go_simp; try with_reducible rfl); simp only [Act.put, List.setIfInBounds_toArray, List.set_cons_zero, List.set_cons_succ])
        (refine wpD_plain 4 (v := ?_) rfl (by kernel_rfl) (by kernel_rfl) (by kernel_rfl) (fun _ _ _ h => h) (by rfl) ?_ (by assumption) ?_; rotate_left; (intro _w; go_simp; try with_reducible rfl); simp only [Act.put, List.setIfInBounds_toArray, List.set_cons_zero, List.set_cons_succ])
        (refine wpD_plain 5 (v := (.int .i64 (r : Int))) rfl (by kernel_rfl) (by kernel_rfl) (by kernel_rfl) (fun _ _ _ h => h) (by rfl) ?_ (by assumption) ?_; (intro _w; go_simp; rw [Int.tmod_eq_emod_of_nonneg (by omega), HM2.out]); simp only [Act.put, List.setIfInBounds_toArray, List.set_cons_zero, List.set_cons_succ])
        (refine wpD_plain 6 (v := ?_) rfl (by kernel_rfl) (by kernel_rfl) (by kernel_rfl) (fun _ _ _ h => h) (by rfl) ?_ (by assumption) ?_; rotate_left; (intro _w; go_simp; try with_reducible rfl); simp only [Act.put, List.setIfInBounds_toArray, List.set_cons_zero, List.set_cons_succ])
        (refine wpD_take 7 _ rfl (by kernel_rfl) (by kernel_rfl) (by kernel_rfl) (fun _ _ _ h => h) (List.mem_cons_of_mem _ List.mem_cons_self) (by rfl) (v := ?_) ?_ (by assumption) ?_; rotate_left; (intro _w _hw; go_simp; try with_reducible rfl); simp only [Act.put, List.setIfInBounds_toArray, List.set_cons_zero, List.set_cons_succ])
        have hxr := HXR.out
        (refine wpD_plain 8 (v := ?_) rfl (by kernel_rfl) (by kernel_rfl) (by kernel_rfl) (fun _ _ _ h => h) (by rfl) ?_ (by assumption) ?_; rotate_left; (intro _w; go_simp; try with_reducible rfl); simp only [Act.put, List.setIfInBounds_toArray, List.set_cons_zero, List.set_cons_succ])
        clear hxr
        (refine wpD_plain 9 (v := ?_) rfl (by kernel_rfl) (by kernel_rfl) (by kernel_rfl) (fun _ _ _ h => h) (by rfl) ?_ (by assumption) ?_; rotate_left; (intro _w; go_simp; try with_reducible rfl); simp only [Act.put, List.setIfInBounds_toArray, List.set_cons_zero, List.set_cons_succ])
        refine wpD_only 10 [] rfl (by kernel_rfl) (by kernel_rfl) (by rfl) (fun K10 hK10 => ?_)
        refine wp_putM _ _ _ rfl b2 m (x ^^^ UInt8.ofNat (blkS k.ek n q r)) rfl rfl c2 _ HR5.out.2.1.drew (by have := HLEN.out; have := HML.out; omega) AE.info1 ?_
        intro w6 HB6 HF6 HS6
        refine hK10 _ _ (Facts.nil_hold _) ?_
        clear hK10 K10
        simp only [Act.put, List.setIfInBounds_toArray, List.set_cons_zero, List.set_cons_succ]
        refine wpD_done (by kernel_rfl) ?_ _
        have hB6 := HB6.out
        rw [HSET.out] at hB6
        have HR' := hid (show Blk w6 b1 59 k.cells ∧ MkB w6 b2 c2 (mix k.ek n L (m + 1)) ∧ Blk w6 b3 57 (AE.b8 (blkAt k.ek n (m + 1)) 16) ∧ Fr No w w6 by
          rw [blkAt_next, HQ.out]
          exact ⟨HR5.out.1.drew.fr HF6.out (fun e => by have := HLT.out; have : b1 = b2 := e; omega), hB6, HR5.out.2.2.1.drew.fr HF6.out (fun e => by have := HLT.out; have : b3 = b2 := e; omega), HR5.out.2.2.2.drew.trans HF6.out fun i e => .inr (by have := HLT.out; have : i = b2 := e; omega)⟩)
        clear HR5 HB6 HF6 HS6 hold c2c c3c hB6
        go_wp2_with fail
        go_roundw
        case rel => exact ⟨m + 1, by omega, by go_num, HR'⟩
        case measure => simp [intOf]; omega
      · have hc : ((m : Int) % 16 == 0) = false := by rw [HM2.out]; exact beq_false_of_ne (by omega)
        have HR5 := hid (show Blk wr b1 59 k.cells ∧ MkB wr b2 c2 (mix k.ek n L m) ∧ Blk wr b3 57 (AE.b8 (blkS k.ek n q) 16) ∧ Fr No w wr from by
          have h := HR.out
          rw [HSAME.out hr0] at h
          exact h)
        clear HR hr0
        have c2c := HC2C.out _ HR5.out.2.1
        have c3c := AE.blk_at HR5.out.2.2.1 (i := r) HR16.out
        go_wp2_with fail
        have hold : Facts.hold [(3, fun w' => w'.cell? ⟨b2, m, none⟩ = some (.int .u8 (x.toNat : Int))), (7, fun w' => w'.cell? ⟨b3, r, none⟩ = some (.int .u8 (blkS k.ek n q r : Int)))] wr.drew := Facts.cons_hold c2c (Facts.cons_hold c3c (Facts.nil_hold _))
        refine wpD_region hold (by kernel_rfl) 11 rfl ?_
        (refine wpD_plain 0 (v := ?_) rfl (by kernel_rfl) (by kernel_rfl) (by kernel_rfl) (fun _ _ _ h => h) (by rfl) ?_ (by assumption) ?_; rotate_left; (intro _w; go_simp; try with_reducible rfl); simp only [Act.put, List.setIfInBounds_toArray, List.set_cons_zero, List.set_cons_succ])
        (refine wpD_plain 1 (v := ?_) rfl (by kernel_rfl) (by kernel_rfl) (by kernel_rfl) (fun _ _ _ h => h) (by rfl) ?_ (by assumption) ?_; rotate_left; (intro _w; go_simp; try with_reducible rfl); simp only [Act.put, List.setIfInBounds_toArray, List.set_cons_zero, List.set_cons_succ])
        (refine wpD_plain 2 (v := ?_) rfl (by kernel_rfl) (by kernel_rfl) (by kernel_rfl) (fun _ _ _ h => h) (by rfl) ?_ (by assumption) ?_; rotate_left; (intro _w; go_simp; try with_reducible rfl); simp only [Act.put, List.setIfInBounds_toArray, List.set_cons_zero, List.set_cons_succ])
        (refine wpD_take 3 _ rfl (by kernel_rfl) (by kernel_rfl) (by kernel_rfl) (fun _ _ _ h => h) List.mem_cons_self (by rfl) (v := ?_) ?_ (by assumption) ?_; rotate_left; (intro _w _hw; go_simp; try with_reducible rfl); simp only [Act.put, List.setIfInBounds_toArray, List.set_cons_zero, List.set_cons_succ])
        (refine wpD_plain 4 (v := ?_) rfl (by kernel_rfl) (by kernel_rfl) (by kernel_rfl) (fun _ _ _ h => h) (by rfl) ?_ (by assumption) ?_; rotate_left; (intro _w; go_simp; try with_reducible rfl); simp only [Act.put, List.setIfInBounds_toArray, List.set_cons_zero, List.set_cons_succ])
        (refine wpD_plain 5 (v := (.int .i64 (r : Int))) rfl (by kernel_rfl) (by kernel_rfl) (by kernel_rfl) (fun _ _ _ h => h) (by rfl) ?_ (by assumption) ?_; (intro _w; go_simp; rw [Int.tmod_eq_emod_of_nonneg (by omega), HM2.out]); simp only [Act.put, List.setIfInBounds_toArray, List.set_cons_zero, List.set_cons_succ])
        (refine wpD_plain 6 (v := ?_) rfl (by kernel_rfl) (by kernel_rfl) (by kernel_rfl) (fun _ _ _ h => h) (by rfl) ?_ (by assumption) ?_; rotate_left; (intro _w; go_simp; try with_reducible rfl); simp only [Act.put, List.setIfInBounds_toArray, List.set_cons_zero, List.set_cons_succ])
        (refine wpD_take 7 _ rfl (by kernel_rfl) (by kernel_rfl) (by kernel_rfl) (fun _ _ _ h => h) (List.mem_cons_of_mem _ List.mem_cons_self) (by rfl) (v := ?_) ?_ (by assumption) ?_; rotate_left; (intro _w _hw; go_simp; try with_reducible rfl); simp only [Act.put, List.setIfInBounds_toArray, List.set_cons_zero, List.set_cons_succ])
        have hxr := HXR.out
        (refine wpD_plain 8 (v := ?_) rfl (by kernel_rfl) (by kernel_rfl) (by kernel_rfl) (fun _ _ _ h => h) (by rfl) ?_ (by assumption) ?_; rotate_left; (intro _w; go_simp; try with_reducible rfl); simp only [Act.put, List.setIfInBounds_toArray, List.set_cons_zero, List.set_cons_succ])
        clear hxr
        (refine wpD_plain 9 (v := ?_) rfl (by kernel_rfl) (by kernel_rfl) (by kernel_rfl) (fun _ _ _ h => h) (by rfl) ?_ (by assumption) ?_; rotate_left; (intro _w; go_simp; try with_reducible rfl); simp only [Act.put, List.setIfInBounds_toArray, List.set_cons_zero, List.set_cons_succ])
        refine wpD_only 10 [] rfl (by kernel_rfl) (by kernel_rfl) (by rfl) (fun K10 hK10 => ?_)
        refine wp_putM _ _ _ rfl b2 m (x ^^^ UInt8.ofNat (blkS k.ek n q r)) rfl rfl c2 _ HR5.out.2.1.drew (by have := HLEN.out; have := HML.out; omega) AE.info1 ?_
        intro w6 HB6 HF6 HS6
        refine hK10 _ _ (Facts.nil_hold _) ?_
        clear hK10 K10
        simp only [Act.put, List.setIfInBounds_toArray, List.set_cons_zero, List.set_cons_succ]
        refine wpD_done (by kernel_rfl) ?_ _
        have hB6 := HB6.out
        rw [HSET.out] at hB6
        have HR' := hid (show Blk w6 b1 59 k.cells ∧ MkB w6 b2 c2 (mix k.ek n L (m + 1)) ∧ Blk w6 b3 57 (AE.b8 (blkAt k.ek n (m + 1)) 16) ∧ Fr No w w6 by
          rw [blkAt_next, HQ.out]
          exact ⟨HR5.out.1.drew.fr HF6.out (fun e => by have := HLT.out; have : b1 = b2 := e; omega), hB6, HR5.out.2.2.1.drew.fr HF6.out (fun e => by have := HLT.out; have : b3 = b2 := e; omega), HR5.out.2.2.2.drew.trans HF6.out fun i e => .inr (by have := HLT.out; have : i = b2 := e; omega)⟩)
        clear HR5 HB6 HF6 HS6 hold c2c c3c hB6
        go_wp2_with fail
        go_roundw
        case rel => exact ⟨m + 1, by omega, by go_num, HR'⟩
        case measure => simp [intOf]; omega
    · obtain rfl : m = t.size := by omega
      have hB := HR.out.2.1
      rw [← HLz.out, mix_all] at hB
      have HBI := hid hB.bytes
      rw [cmb_length, HLz.out] at HBI
      have HF := hid HR.out.2.2.2
      clear hB HR
      go_wp2_with (first
        | ((with_reducible show wpList _ _ _ (⟨_, .convert _ 9 _, _, _, _, _⟩ :: _) _ _); refine wpL_stringOf rfl _ _ _ _ rfl _ _ (cmb k.ek n L) rfl HBI.out Try.underlying38 Try.underlying5 Try.underlying9 ?_)
        | fail)
      go_ret
      exact ⟨rfl, HF.out⟩
end Go.Proofs.Ytakmeipmngeilaa.SE

set_option linter.unusedVariables false
set_option linter.unusedSimpArgs false
set_option linter.unusedSectionVars false
namespace Go.Proofs.Ytakmeipmngeilaa.SE
set_option maxRecDepth 100000
open Go.RowKit K
variable [SH.Tab]

theorem ky_num {w : World} {b : Nat} {k : Ky} (h : Blk w b 59 k.cells) : w.cell? ⟨b, 0, none⟩ = some (.int .u8 (k.num.toNat : Int)) := by rw [h.cell]; rfl
theorem ky_ak {w : World} {b : Nat} {k : Ky} (h : Blk w b 59 k.cells) : BytesIn w Any (.slice (some ⟨b, 17, none⟩) 16 16) k.ak :=
  ⟨_, _, _, rfl, k.hak, Nat.le_refl _, .inr ⟨b, 17, rfl, trivial, h.lt, h.range 17 _ (by
    unfold Ky.cells
    rw [List.drop_succ_cons, List.drop_append_of_le_length (by simp [AE.b8]), List.drop_of_length_le (by simp [AE.b8]), List.nil_append, List.take_length])⟩⟩
theorem tag_row (k : Ky) (p : List UInt8) : ((AE.b8 (SH.mac k.ak (k.num :: p)) 32).take 16) = u8s (k.tag p) := by
  refine (b8_u8s (SH.mac k.ak (k.num :: p)) (k.tag p) 16 (k.tag_length p) (fun i hi => ?_)).symm ▸ ?_
  · unfold Ky.tag
    rw [List.getElem_map, List.getElem_range, UInt8.toNat_ofNat', Nat.mod_eq_of_lt (show SH.mac k.ak (k.num :: p) i < 2 ^ 8 from SH.dig_lt _ _)]
  · unfold AE.b8
    rw [← List.map_take, List.take_range]
    rfl
theorem tag_bytes {w : World} {b : Nat} {k : Ky} {p : List UInt8} (h : Blk w b 78 (AR.bw .u8 (SH.mac k.ak (k.num :: p)) 32)) : BytesIn w Any (.slice (some ⟨b, 0, none⟩) 16 32) (k.tag p) :=
  ⟨_, _, _, rfl, k.tag_length p, by decide, .inr ⟨b, 0, rfl, trivial, h.lt, h.range 0 _ (by
    rw [List.drop_zero, u8s_length, k.tag_length]
    exact tag_row k p)⟩⟩

set_option maxHeartbeats 4000000 in
theorem tag_any (k : Ky) (p : S) (hp : p.size ≤ 1000000) (w : World) (hg : SH.Gl w) : Calls Try.prog 62 #[k.val, .string p] w fun e w' =>
    e = .returned (.string (sb (k.tag p.data.toList))) ∧ Fr No w w' := by
  obtain ⟨i5, hi5, hz5, hs5, hb5⟩ := Go.info_parts infoB
  have I5 := hid hi5; have Z5 := hid hz5; have S5 := hid hs5; have B5 := hid hb5
  have HP := hid hp; have HG := hid hg
  have hpi : (p.size : Int) ≤ 1000000 := by omega
  clear hi5 hz5 hs5 hb5 hp hg
  go_enter Try.func62, Try.ntmps62
  go_wp2_with (first
    | ((with_reducible show wpList _ _ _ (⟨_, .box 59 _, _, _, _, _⟩ :: _) _ _); refine wpL_box rfl _ _ rfl k.val rfl k.cells rfl ?_; intro w1 HB1 HF1 HS1)
    | fail)
  obtain ⟨b1, hb1⟩ : ∃ b, w.heap.size = b := ⟨_, rfl⟩
  have HBa := hid hb1
  have HK := hid (show Blk w1.drew b1 59 k.cells ∧ Fr No w w1.drew ∧ b1 < w1.drew.heap.size from ⟨by rw [← hb1]; exact HB1.out.drew, HF1.out.drew, by have := HS1.out; show b1 < w1.heap.size; omega⟩)
  rw [hb1]
  clear HB1 HF1 HS1 hb1
  have c0 := ky_num HK.out.1
  have hold : Facts.hold [(3, fun w' => w'.cell? ⟨b1, 0, none⟩ = some (.int .u8 (k.num.toNat : Int)))] w1.drew := Facts.cons_hold c0 (Facts.nil_hold _)
  refine wpD_region hold (by kernel_rfl) 10 rfl ?_
  (refine wpD_plain 0 (v := ?_) rfl (by kernel_rfl) (by kernel_rfl) (by kernel_rfl) (fun _ _ _ h => h) (by rfl) ?_ (by assumption) ?_; rotate_left; (intro _w; go_simp; try with_reducible rfl); simp only [Act.put, List.setIfInBounds_toArray, List.set_cons_zero, List.set_cons_succ])
  (refine wpD_plain 1 (v := ?_) rfl (by kernel_rfl) (by kernel_rfl) (by kernel_rfl) (fun _ _ _ h => h) (by rfl) ?_ (by assumption) ?_; rotate_left; (intro _w; go_simp; try with_reducible rfl); simp only [Act.put, List.setIfInBounds_toArray, List.set_cons_zero, List.set_cons_succ])
  (refine wpD_plain 2 (v := ?_) rfl (by kernel_rfl) (by kernel_rfl) (by kernel_rfl) (fun _ _ _ h => h) (by rfl) ?_ (by assumption) ?_; rotate_left; (intro _w; go_simp; try with_reducible rfl); simp only [Act.put, List.setIfInBounds_toArray, List.set_cons_zero, List.set_cons_succ])
  (refine wpD_take 3 _ rfl (by kernel_rfl) (by kernel_rfl) (by kernel_rfl) (fun _ _ _ h => h) List.mem_cons_self (by rfl) (v := ?_) ?_ (by assumption) ?_; rotate_left; (intro _w _hw; go_simp; try with_reducible rfl); simp only [Act.put, List.setIfInBounds_toArray, List.set_cons_zero, List.set_cons_succ])
  (refine wpD_plain 5 (v := ?_) rfl (by kernel_rfl) (by kernel_rfl) (by kernel_rfl) (fun _ _ _ h => h) (by rfl) ?_ (by assumption) ?_; rotate_left; (intro _w; go_simp; try with_reducible rfl); simp only [Act.put, List.setIfInBounds_toArray, List.set_cons_zero, List.set_cons_succ])
  clear hold c0
  refine wpD_two 4 8 [] [(3, fun w' => w'.cell? ⟨b1, 0, none⟩ = some (.int .u8 (k.num.toNat : Int)))] rfl rfl (by kernel_rfl) (by kernel_rfl) (by kernel_rfl) (by rfl) (by rfl) ?_ ?_
  · intro K hK
    refine wp_buildOne 38 5 _ rfl i5 _ Try.underlying38 I5.out Z5.out (by rw [S5.out]; decide) (by rw [S5.out]; decide) (.int .u8 (k.num.toNat : Int)) [.int .u8 (k.num.toNat : Int)] rfl rfl (by rw [S5.out]; rfl) ?_
    intro y2 HBx HFx HSx
    obtain ⟨bl, hbl⟩ : ∃ b, w1.drew.heap.size = b := ⟨_, rfl⟩
    have HK' := hid (show Blk y2 b1 59 k.cells ∧ Fr No w y2 ∧ b1 < y2.heap.size from ⟨HK.out.1.fr HFx.out id, HK.out.2.1.trans' HFx.out, by have := HSx.out; have := HK.out.2.2; omega⟩)
    have HBu := hid (show Blk y2 bl 5 [.int .u8 (k.num.toNat : Int)] ∧ b1 < bl from ⟨by rw [← hbl]; exact HBx.out, by have := HK.out.2.2; omega⟩)
    refine hK _ _ (Facts.nil_hold _) ?_
    clear hK K
    rw [hbl]
    simp only [Act.put, List.setIfInBounds_toArray, List.set_cons_zero, List.set_cons_succ]
    clear HK HBx HFx HSx hbl
    have HK := HK'
    clear HK'
    refine wpD_two 6 8 [] [] rfl rfl (by kernel_rfl) (by kernel_rfl) (by kernel_rfl) (by rfl) (by rfl) ?_ ?_
    · intro K hK
      have hown : y2.ownsRow w.heap.size 5 1 (.slice (some ⟨bl, 0, none⟩) 1 1) 1 [.int .u8 (k.num.toNat : Int)] := HBu.out.1.own (by have := HBu.out.2; have := HBa.out; omega) rfl (Nat.le_refl _) (by decide) rfl rfl
      refine wp_appendStr _ _ 38 9 rfl w.heap.size 5 i5 Try.underlying38 Try.underlying9 I5.out Z5.out S5.out B5.out (.slice (some ⟨bl, 0, none⟩) 1 1) 1 _ rfl hown p rfl (by have := HP.out; unfold maxLen; omega) (by have := HP.out; omega) HK.out.2.1.size ?_
      intro a6 c6 y3 HOx HGx HAx
      have hfx : Fr (fun j => j = bl) y2 y3 := (frGrown HGx.out).mono fun j e => by have : (some bl : Option Nat) = some j := e; exact (Option.some.inj this).symm
      have HK' := hid (show Blk y3 b1 59 k.cells ∧ Fr No w y3 ∧ b1 < y3.heap.size from ⟨HK.out.1.fr hfx (fun e => by have := HBu.out.2; have : b1 = bl := e; omega), HK.out.2.1.trans hfx (fun j e => .inr (by have := HBu.out.2; have := HBa.out; have : j = bl := e; omega)), Nat.lt_of_lt_of_le HK.out.2.2 hfx.size⟩)
      have HAp := hid (show BytesIn y3 Any (.slice a6 (1 + p.size) c6) (k.num :: p.data.toList) from by have h := HOx.out; have e : 1 + p.size = (k.num :: p.data.toList).length := (by rw [List.length_cons, size_list]; omega); rw [e] at h ⊢; exact (own_bytes h).any)
      refine hK _ _ (Facts.nil_hold _) ?_
      clear hK K
      obtain ⟨v6, hv6⟩ : ∃ v, Value.slice a6 (1 + p.size) c6 = v := ⟨_, rfl⟩
      rw [hv6] at HAp ⊢
      simp only [Act.put, List.setIfInBounds_toArray, List.set_cons_zero, List.set_cons_succ]
      clear HK HBu HOx HGx HAx hfx hown hv6
      have HK := HK'
      clear HK'
      refine wpD_two 7 8 [] [] rfl rfl (by kernel_rfl) (by kernel_rfl) (by kernel_rfl) (by rfl) (by rfl) ?_ ?_
      · intro K hK
        refine wp_call _ [_, _] _ rfl _ [] rfl (fun _ _ => by kernel_rfl) [.slice (some ⟨b1, 17, none⟩) 16 16, v6] rfl ?_
        refine (SH.pmac_any k.ak (k.num :: p.data.toList) _ _ _ (ky_ak HK.out.1) HAp.out (HG.out.no HK.out.2.1) (by rw [k.hak]; decide) (by rw [List.length_cons, size_list]; have := HP.out; omega)).mono ?_
        rintro e y4 ⟨rfl, hfx⟩
        have HK' := hid (HK.out.2.1.trans' hfx)
        have HSZ := hid (show b1 < y4.heap.size from Nat.lt_of_lt_of_le HK.out.2.2 hfx.size)
        refine ⟨_, rfl, hK _ _ (Facts.nil_hold _) ?_⟩
        clear hK K
        simp only [Act.put, List.setIfInBounds_toArray, List.set_cons_zero, List.set_cons_succ]
        clear HK HAp hfx
        have HK := HK'
        clear HK'
        refine wpD_only 8 [] rfl (by kernel_rfl) (by kernel_rfl) (by rfl) (fun K8 hK8 => ?_)
        refine wp_alloc 78 rfl _ SH.zero32b (AR.bw .u8 (fun _ => 0) 32) rfl ?_
        intro y5 HBx HFx HSx
        obtain ⟨b5, hb5⟩ : ∃ b, y4.heap.size = b := ⟨_, rfl⟩
        have HK' := hid (HK.out.trans' HFx.out)
        have HAl := hid (show Blk y5 b5 78 (AR.bw .u8 (fun _ => 0) 32) ∧ b1 < b5 from ⟨by rw [← hb5]; exact HBx.out, by have := HSZ.out; omega⟩)
        refine hK8 _ _ (Facts.nil_hold _) ?_
        clear hK8 K8
        rw [hb5]
        simp only [Act.put, List.setIfInBounds_toArray, List.set_cons_zero, List.set_cons_succ]
        clear HK HBx HFx HSx hb5 HSZ
        have HK := HK'
        clear HK'
        have hold := Facts.nil_hold y5
        refine wpD_only 9 [] rfl (by kernel_rfl) (by kernel_rfl) (by rfl) (fun K9 hK9 => ?_)
        refine AR.wp_row 78 _ _ rfl b5 0 (SH.mac k.ak (k.num :: p.data.toList)) 32 rfl rfl _ _ 32 HAl.out.1 (by decide) SH.info32b ?_
        intro w8 HB8 HF8 HS8
        have hB8 := HB8.out
        rw [AR.over_all] at hB8
        refine hK9 _ _ (Facts.nil_hold _) ?_
        clear hK9 K9
        simp only [Act.put, List.setIfInBounds_toArray, List.set_cons_zero, List.set_cons_succ]
        refine wpD_done (by kernel_rfl) ?_ _
        have HB9 := hid (tag_bytes hB8)
        have HF9 := hid (HK.out.trans HF8.out fun j e => .inr (by have := HAl.out.2; have := HBa.out; have : j = b5 := e; omega))
        clear HAl HB8 HF8 HS8 hB8 HK hold
        go_wp2_with (first
          | ((with_reducible show wpList _ _ _ (⟨_, .convert _ 9 _, _, _, _, _⟩ :: _) _ _); refine wpL_stringOf rfl _ _ _ _ rfl _ _ (k.tag p.data.toList) rfl HB9.out Try.underlying38 Try.underlying5 Try.underlying9 ?_)
          | fail)
        go_ret
        exact ⟨rfl, HF9.out⟩
      · intro K hK
        refine wp_alloc 78 rfl _ SH.zero32b (AR.bw .u8 (fun _ => 0) 32) rfl ?_
        intro y6 HBx HFx HSx
        obtain ⟨b5, hb5⟩ : ∃ b, y3.heap.size = b := ⟨_, rfl⟩
        have HK' := hid (show Blk y6 b1 59 k.cells ∧ Fr No w y6 ∧ b1 < y6.heap.size from ⟨HK.out.1.fr HFx.out id, HK.out.2.1.trans' HFx.out, by have := HSx.out; have := HK.out.2.2; omega⟩)
        have HAl := hid (show Blk y6 b5 78 (AR.bw .u8 (fun _ => 0) 32) ∧ b1 < b5 from ⟨by rw [← hb5]; exact HBx.out, by have := HK.out.2.2; omega⟩)
        have HAp' := hid (HAp.out.no HFx.out)
        refine hK _ _ (Facts.nil_hold _) ?_
        clear hK K
        rw [hb5]
        simp only [Act.put, List.setIfInBounds_toArray, List.set_cons_zero, List.set_cons_succ]
        clear HK HBx HFx HSx hb5 HAp
        have HK := HK'
        clear HK'
        have HAp := HAp'
        clear HAp'
        refine wpD_only 7 [] rfl (by kernel_rfl) (by kernel_rfl) (by rfl) (fun K7 hK7 => ?_)
        refine wp_call _ [_, _] _ rfl _ [] rfl (fun _ _ => by kernel_rfl) [.slice (some ⟨b1, 17, none⟩) 16 16, v6] rfl ?_
        refine (SH.pmac_any k.ak (k.num :: p.data.toList) _ _ _ (ky_ak HK.out.1) HAp.out (HG.out.no HK.out.2.1) (by rw [k.hak]; decide) (by rw [List.length_cons, size_list]; have := HP.out; omega)).mono ?_
        rintro e y7 ⟨rfl, hfx⟩
        have HK' := hid (HK.out.2.1.trans' hfx)
        have HSZ := hid (show b1 < y7.heap.size from Nat.lt_of_lt_of_le HK.out.2.2 hfx.size)
        have HAl' := hid (show Blk y7 b5 78 (AR.bw .u8 (fun _ => 0) 32) ∧ b1 < b5 from ⟨HAl.out.1.fr hfx id, HAl.out.2⟩)
        refine ⟨_, rfl, hK7 _ _ (Facts.nil_hold _) ?_⟩
        clear hK7 K7
        simp only [Act.put, List.setIfInBounds_toArray, List.set_cons_zero, List.set_cons_succ]
        clear HK HAp hfx HAl
        have HK := HK'
        clear HK'
        have HAl := HAl'
        clear HAl'
        clear HSZ
        have hold := Facts.nil_hold y7
        refine wpD_only 9 [] rfl (by kernel_rfl) (by kernel_rfl) (by rfl) (fun K9 hK9 => ?_)
        refine AR.wp_row 78 _ _ rfl b5 0 (SH.mac k.ak (k.num :: p.data.toList)) 32 rfl rfl _ _ 32 HAl.out.1 (by decide) SH.info32b ?_
        intro w8 HB8 HF8 HS8
        have hB8 := HB8.out
        rw [AR.over_all] at hB8
        refine hK9 _ _ (Facts.nil_hold _) ?_
        clear hK9 K9
        simp only [Act.put, List.setIfInBounds_toArray, List.set_cons_zero, List.set_cons_succ]
        refine wpD_done (by kernel_rfl) ?_ _
        have HB9 := hid (tag_bytes hB8)
        have HF9 := hid (HK.out.trans HF8.out fun j e => .inr (by have := HAl.out.2; have := HBa.out; have : j = b5 := e; omega))
        clear HAl HB8 HF8 HS8 hB8 HK hold
        go_wp2_with (first
          | ((with_reducible show wpList _ _ _ (⟨_, .convert _ 9 _, _, _, _, _⟩ :: _) _ _); refine wpL_stringOf rfl _ _ _ _ rfl _ _ (k.tag p.data.toList) rfl HB9.out Try.underlying38 Try.underlying5 Try.underlying9 ?_)
          | fail)
        go_ret
        exact ⟨rfl, HF9.out⟩
    · intro K hK
      refine wp_alloc 78 rfl _ SH.zero32b (AR.bw .u8 (fun _ => 0) 32) rfl ?_
      intro y8 HBx HFx HSx
      obtain ⟨b5, hb5⟩ : ∃ b, y2.heap.size = b := ⟨_, rfl⟩
      have HK' := hid (show Blk y8 b1 59 k.cells ∧ Fr No w y8 ∧ b1 < y8.heap.size from ⟨HK.out.1.fr HFx.out id, HK.out.2.1.trans' HFx.out, by have := HSx.out; have := HK.out.2.2; omega⟩)
      have HAl := hid (show Blk y8 b5 78 (AR.bw .u8 (fun _ => 0) 32) ∧ b1 < b5 from ⟨by rw [← hb5]; exact HBx.out, by have := HK.out.2.2; omega⟩)
      have HBu' := hid (show Blk y8 bl 5 [.int .u8 (k.num.toNat : Int)] ∧ b1 < bl ∧ bl ≠ b5 from ⟨HBu.out.1.fr HFx.out id, HBu.out.2, by have := HBu.out.1.lt; omega⟩)
      refine hK _ _ (Facts.nil_hold _) ?_
      clear hK K
      rw [hb5]
      simp only [Act.put, List.setIfInBounds_toArray, List.set_cons_zero, List.set_cons_succ]
      clear HK HBx HFx HSx hb5 HBu
      have HK := HK'
      clear HK'
      have HBu := HBu'
      clear HBu'
      refine wpD_only 6 [] rfl (by kernel_rfl) (by kernel_rfl) (by rfl) (fun K6 hK6 => ?_)
      have hown : y8.ownsRow w.heap.size 5 1 (.slice (some ⟨bl, 0, none⟩) 1 1) 1 [.int .u8 (k.num.toNat : Int)] := HBu.out.1.own (by have := HBu.out.2; have := HBa.out; omega) rfl (Nat.le_refl _) (by decide) rfl rfl
      refine wp_appendStr _ _ 38 9 rfl w.heap.size 5 i5 Try.underlying38 Try.underlying9 I5.out Z5.out S5.out B5.out (.slice (some ⟨bl, 0, none⟩) 1 1) 1 _ rfl hown p rfl (by have := HP.out; unfold maxLen; omega) (by have := HP.out; omega) HK.out.2.1.size ?_
      intro a6 c6 y9 HOx HGx HAx
      have hfx : Fr (fun j => j = bl) y8 y9 := (frGrown HGx.out).mono fun j e => by have : (some bl : Option Nat) = some j := e; exact (Option.some.inj this).symm
      have HK' := hid (show Blk y9 b1 59 k.cells ∧ Fr No w y9 ∧ b1 < y9.heap.size from ⟨HK.out.1.fr hfx (fun e => by have := HBu.out.2; have : b1 = bl := e; omega), HK.out.2.1.trans hfx (fun j e => .inr (by have := HBu.out.2; have := HBa.out; have : j = bl := e; omega)), Nat.lt_of_lt_of_le HK.out.2.2 hfx.size⟩)
      have HAl' := hid (show Blk y9 b5 78 (AR.bw .u8 (fun _ => 0) 32) ∧ b1 < b5 from ⟨HAl.out.1.fr hfx (fun e => HBu.out.2.2 (by have : b5 = bl := e; exact this.symm)), HAl.out.2⟩)
      have HAp := hid (show BytesIn y9 Any (.slice a6 (1 + p.size) c6) (k.num :: p.data.toList) from by have h := HOx.out; have e : 1 + p.size = (k.num :: p.data.toList).length := (by rw [List.length_cons, size_list]; omega); rw [e] at h ⊢; exact (own_bytes h).any)
      refine hK6 _ _ (Facts.nil_hold _) ?_
      clear hK6 K6
      obtain ⟨v6, hv6⟩ : ∃ v, Value.slice a6 (1 + p.size) c6 = v := ⟨_, rfl⟩
      rw [hv6] at HAp ⊢
      simp only [Act.put, List.setIfInBounds_toArray, List.set_cons_zero, List.set_cons_succ]
      clear HK HBu HOx HGx HAx hfx hown hv6 HAl
      have HK := HK'
      clear HK'
      have HAl := HAl'
      clear HAl'
      refine wpD_only 7 [] rfl (by kernel_rfl) (by kernel_rfl) (by rfl) (fun K7 hK7 => ?_)
      refine wp_call _ [_, _] _ rfl _ [] rfl (fun _ _ => by kernel_rfl) [.slice (some ⟨b1, 17, none⟩) 16 16, v6] rfl ?_
      refine (SH.pmac_any k.ak (k.num :: p.data.toList) _ _ _ (ky_ak HK.out.1) HAp.out (HG.out.no HK.out.2.1) (by rw [k.hak]; decide) (by rw [List.length_cons, size_list]; have := HP.out; omega)).mono ?_
      rintro e y10 ⟨rfl, hfx⟩
      have HK' := hid (HK.out.2.1.trans' hfx)
      have HSZ := hid (show b1 < y10.heap.size from Nat.lt_of_lt_of_le HK.out.2.2 hfx.size)
      have HAl' := hid (show Blk y10 b5 78 (AR.bw .u8 (fun _ => 0) 32) ∧ b1 < b5 from ⟨HAl.out.1.fr hfx id, HAl.out.2⟩)
      refine ⟨_, rfl, hK7 _ _ (Facts.nil_hold _) ?_⟩
      clear hK7 K7
      simp only [Act.put, List.setIfInBounds_toArray, List.set_cons_zero, List.set_cons_succ]
      clear HK HAp hfx HAl
      have HK := HK'
      clear HK'
      have HAl := HAl'
      clear HAl'
      clear HSZ
      have hold := Facts.nil_hold y10
      refine wpD_only 9 [] rfl (by kernel_rfl) (by kernel_rfl) (by rfl) (fun K9 hK9 => ?_)
      refine AR.wp_row 78 _ _ rfl b5 0 (SH.mac k.ak (k.num :: p.data.toList)) 32 rfl rfl _ _ 32 HAl.out.1 (by decide) SH.info32b ?_
      intro w8 HB8 HF8 HS8
      have hB8 := HB8.out
      rw [AR.over_all] at hB8
      refine hK9 _ _ (Facts.nil_hold _) ?_
      clear hK9 K9
      simp only [Act.put, List.setIfInBounds_toArray, List.set_cons_zero, List.set_cons_succ]
      refine wpD_done (by kernel_rfl) ?_ _
      have HB9 := hid (tag_bytes hB8)
      have HF9 := hid (HK.out.trans HF8.out fun j e => .inr (by have := HAl.out.2; have := HBa.out; have : j = b5 := e; omega))
      clear HAl HB8 HF8 HS8 hB8 HK hold
      go_wp2_with (first
        | ((with_reducible show wpList _ _ _ (⟨_, .convert _ 9 _, _, _, _, _⟩ :: _) _ _); refine wpL_stringOf rfl _ _ _ _ rfl _ _ (k.tag p.data.toList) rfl HB9.out Try.underlying38 Try.underlying5 Try.underlying9 ?_)
        | fail)
      go_ret
      exact ⟨rfl, HF9.out⟩
  · intro K hK
    refine wp_alloc 78 rfl _ SH.zero32b (AR.bw .u8 (fun _ => 0) 32) rfl ?_
    intro y11 HBx HFx HSx
    obtain ⟨b5, hb5⟩ : ∃ b, w1.drew.heap.size = b := ⟨_, rfl⟩
    have HK' := hid (show Blk y11 b1 59 k.cells ∧ Fr No w y11 ∧ b1 < y11.heap.size from ⟨HK.out.1.fr HFx.out id, HK.out.2.1.trans' HFx.out, by have := HSx.out; have := HK.out.2.2; omega⟩)
    have HAl := hid (show Blk y11 b5 78 (AR.bw .u8 (fun _ => 0) 32) ∧ b1 < b5 from ⟨by rw [← hb5]; exact HBx.out, by have := HK.out.2.2; omega⟩)
    have c0 := ky_num HK'.out.1
    refine hK _ _ (Facts.cons_hold c0 (Facts.nil_hold _)) ?_
    clear hK K
    rw [hb5]
    simp only [Act.put, List.setIfInBounds_toArray, List.set_cons_zero, List.set_cons_succ]
    clear HK HBx HFx HSx hb5 c0
    have HK := HK'
    clear HK'
    refine wpD_only 4 [] rfl (by kernel_rfl) (by kernel_rfl) (by rfl) (fun K4 hK4 => ?_)
    refine wp_buildOne 38 5 _ rfl i5 _ Try.underlying38 I5.out Z5.out (by rw [S5.out]; decide) (by rw [S5.out]; decide) (.int .u8 (k.num.toNat : Int)) [.int .u8 (k.num.toNat : Int)] rfl rfl (by rw [S5.out]; rfl) ?_
    intro y12 HBx HFx HSx
    obtain ⟨bl, hbl⟩ : ∃ b, y11.heap.size = b := ⟨_, rfl⟩
    have HK' := hid (show Blk y12 b1 59 k.cells ∧ Fr No w y12 ∧ b1 < y12.heap.size from ⟨HK.out.1.fr HFx.out id, HK.out.2.1.trans' HFx.out, by have := HSx.out; have := HK.out.2.2; omega⟩)
    have HBu := hid (show Blk y12 bl 5 [.int .u8 (k.num.toNat : Int)] ∧ b1 < bl ∧ bl ≠ b5 from ⟨by rw [← hbl]; exact HBx.out, by have := HK.out.2.2; omega, by have := HAl.out.1.lt; omega⟩)
    have HAl' := hid (show Blk y12 b5 78 (AR.bw .u8 (fun _ => 0) 32) ∧ b1 < b5 from ⟨HAl.out.1.fr HFx.out id, HAl.out.2⟩)
    refine hK4 _ _ (Facts.nil_hold _) ?_
    clear hK4 K4
    rw [hbl]
    simp only [Act.put, List.setIfInBounds_toArray, List.set_cons_zero, List.set_cons_succ]
    clear HK HBx HFx HSx hbl HAl
    have HK := HK'
    clear HK'
    have HAl := HAl'
    clear HAl'
    refine wpD_only 6 [] rfl (by kernel_rfl) (by kernel_rfl) (by rfl) (fun K6 hK6 => ?_)
    have hown : y12.ownsRow w.heap.size 5 1 (.slice (some ⟨bl, 0, none⟩) 1 1) 1 [.int .u8 (k.num.toNat : Int)] := HBu.out.1.own (by have := HBu.out.2; have := HBa.out; omega) rfl (Nat.le_refl _) (by decide) rfl rfl
    refine wp_appendStr _ _ 38 9 rfl w.heap.size 5 i5 Try.underlying38 Try.underlying9 I5.out Z5.out S5.out B5.out (.slice (some ⟨bl, 0, none⟩) 1 1) 1 _ rfl hown p rfl (by have := HP.out; unfold maxLen; omega) (by have := HP.out; omega) HK.out.2.1.size ?_
    intro a6 c6 y13 HOx HGx HAx
    have hfx : Fr (fun j => j = bl) y12 y13 := (frGrown HGx.out).mono fun j e => by have : (some bl : Option Nat) = some j := e; exact (Option.some.inj this).symm
    have HK' := hid (show Blk y13 b1 59 k.cells ∧ Fr No w y13 ∧ b1 < y13.heap.size from ⟨HK.out.1.fr hfx (fun e => by have := HBu.out.2; have : b1 = bl := e; omega), HK.out.2.1.trans hfx (fun j e => .inr (by have := HBu.out.2; have := HBa.out; have : j = bl := e; omega)), Nat.lt_of_lt_of_le HK.out.2.2 hfx.size⟩)
    have HAl' := hid (show Blk y13 b5 78 (AR.bw .u8 (fun _ => 0) 32) ∧ b1 < b5 from ⟨HAl.out.1.fr hfx (fun e => HBu.out.2.2 (by have : b5 = bl := e; exact this.symm)), HAl.out.2⟩)
    have HAp := hid (show BytesIn y13 Any (.slice a6 (1 + p.size) c6) (k.num :: p.data.toList) from by have h := HOx.out; have e : 1 + p.size = (k.num :: p.data.toList).length := (by rw [List.length_cons, size_list]; omega); rw [e] at h ⊢; exact (own_bytes h).any)
    refine hK6 _ _ (Facts.nil_hold _) ?_
    clear hK6 K6
    obtain ⟨v6, hv6⟩ : ∃ v, Value.slice a6 (1 + p.size) c6 = v := ⟨_, rfl⟩
    rw [hv6] at HAp ⊢
    simp only [Act.put, List.setIfInBounds_toArray, List.set_cons_zero, List.set_cons_succ]
    clear HK HBu HOx HGx HAx hfx hown hv6 HAl
    have HK := HK'
    clear HK'
    have HAl := HAl'
    clear HAl'
    refine wpD_only 7 [] rfl (by kernel_rfl) (by kernel_rfl) (by rfl) (fun K7 hK7 => ?_)
    refine wp_call _ [_, _] _ rfl _ [] rfl (fun _ _ => by kernel_rfl) [.slice (some ⟨b1, 17, none⟩) 16 16, v6] rfl ?_
    refine (SH.pmac_any k.ak (k.num :: p.data.toList) _ _ _ (ky_ak HK.out.1) HAp.out (HG.out.no HK.out.2.1) (by rw [k.hak]; decide) (by rw [List.length_cons, size_list]; have := HP.out; omega)).mono ?_
    rintro e y14 ⟨rfl, hfx⟩
    have HK' := hid (HK.out.2.1.trans' hfx)
    have HSZ := hid (show b1 < y14.heap.size from Nat.lt_of_lt_of_le HK.out.2.2 hfx.size)
    have HAl' := hid (show Blk y14 b5 78 (AR.bw .u8 (fun _ => 0) 32) ∧ b1 < b5 from ⟨HAl.out.1.fr hfx id, HAl.out.2⟩)
    refine ⟨_, rfl, hK7 _ _ (Facts.nil_hold _) ?_⟩
    clear hK7 K7
    simp only [Act.put, List.setIfInBounds_toArray, List.set_cons_zero, List.set_cons_succ]
    clear HK HAp hfx HAl
    have HK := HK'
    clear HK'
    have HAl := HAl'
    clear HAl'
    clear HSZ
    have hold := Facts.nil_hold y14
    refine wpD_only 9 [] rfl (by kernel_rfl) (by kernel_rfl) (by rfl) (fun K9 hK9 => ?_)
    refine AR.wp_row 78 _ _ rfl b5 0 (SH.mac k.ak (k.num :: p.data.toList)) 32 rfl rfl _ _ 32 HAl.out.1 (by decide) SH.info32b ?_
    intro w8 HB8 HF8 HS8
    have hB8 := HB8.out
    rw [AR.over_all] at hB8
    refine hK9 _ _ (Facts.nil_hold _) ?_
    clear hK9 K9
    simp only [Act.put, List.setIfInBounds_toArray, List.set_cons_zero, List.set_cons_succ]
    refine wpD_done (by kernel_rfl) ?_ _
    have HB9 := hid (tag_bytes hB8)
    have HF9 := hid (HK.out.trans HF8.out fun j e => .inr (by have := HAl.out.2; have := HBa.out; have : j = b5 := e; omega))
    clear HAl HB8 HF8 HS8 hB8 HK hold
    go_wp2_with (first
      | ((with_reducible show wpList _ _ _ (⟨_, .convert _ 9 _, _, _, _, _⟩ :: _) _ _); refine wpL_stringOf rfl _ _ _ _ rfl _ _ (k.tag p.data.toList) rfl HB9.out Try.underlying38 Try.underlying5 Try.underlying9 ?_)
      | fail)
    go_ret
    exact ⟨rfl, HF9.out⟩
end Go.Proofs.Ytakmeipmngeilaa.SE

set_option linter.unusedVariables false
set_option linter.unusedSimpArgs false
set_option linter.unusedSectionVars false
namespace Go.Proofs.Ytakmeipmngeilaa.SE
set_option maxRecDepth 100000
open Go.RowKit K
variable [SH.Tab]

theorem ky_load {w : World} {b : Nat} {k : Ky} (h : Blk w b 59 k.cells) : w.rangeAt b 0 k.cells := h.range 0 _ (by rw [List.drop_zero, List.take_length])
theorem infoKy' {k : Ky} : (Try.prog.info? 59).map (·.size) = some k.cells.length := by rw [k.cells_length]; exact infoKy
/-- What a call gives back that tells a text and an error. -/
def told (l : List UInt8) (c : Nat) : Ending := .returned (.tuple #[.string (sb l), .int .i64 (c : Int)])
set_option maxHeartbeats 1000000 in
theorem kseal_any (k : Ky) (n p : S) (hn : n.size = 8) (hp : p.size ≤ 200) (w : World) (hg : SH.Gl w) : Calls Try.prog 61 #[k.val, .string n, .string p] w fun e w' =>
    e = told (k.seal n p.data.toList) 0 ∧ Fr No w w' := by
  have HN := hid hn; have HP := hid hp; have HG := hid hg
  obtain ⟨C, hC⟩ : ∃ C, cmb k.ek n p.data.toList = C := ⟨_, rfl⟩
  have hCl : C.length = p.size := by rw [← hC, cmb_length, size_list]
  have HC := hid hC; have HCl := hid hCl
  clear hn hp hg hC hCl
  go_enter Try.func61, Try.ntmps61
  go_wp2_with (first
    | ((with_reducible show wpList _ _ _ (⟨_, .box 59 _, _, _, _, _⟩ :: _) _ _); refine wpL_box rfl _ _ rfl k.val rfl k.cells rfl ?_; intro w1 HB1 HF1 HS1)
    | ((with_reducible show wpList _ _ _ (⟨_, .load 59 _, _, _, _, _⟩ :: _) _ _); refine wpL_load rfl _ _ rfl w.heap.size 0 rfl k.cells _ (ky_load HB1.out) Try.underlying59 rfl infoKy' ?_)
    | fail)
  refine (combine_any k n p HN.out (by have := HP.out; omega) _).mono ?_
  rintro e w2 ⟨rfl, hf2⟩
  rw [HC.out]
  have HB2 := hid (HB1.out.fr hf2 id)
  have HF2 := hid (HF1.out.trans' hf2)
  have hn8 : (n.size : Int) ≤ 8388608 := by have := HN.out; omega
  have hc8 : ((sb C).size : Int) ≤ 8388608 := by rw [sb_size, HCl.out]; have := HP.out; omega
  clear hf2 HB1 HF1 HS1
  go_wp2_with (first
    | ((with_reducible show wpList _ _ _ (⟨_, .load 59 _, _, _, _, _⟩ :: _) _ _); refine wpL_load rfl _ _ rfl w.heap.size 0 rfl k.cells _ (ky_load HB2.out) Try.underlying59 rfl infoKy' ?_)
    | fail)
  rw [app_sb]
  obtain ⟨A, hA⟩ : ∃ A, n.data.toList ++ C = A := ⟨_, rfl⟩
  have hAl : A.length = 8 + p.size := by rw [← hA, List.length_append, size_list, HCl.out, HN.out]
  have hAk : k.ahead n p.data.toList = A := by unfold Ky.ahead; rw [HC.out, hA]
  rw [hA]
  have HAl := hid hAl; have HAk := hid hAk
  have ha8 : ((sb A).size : Int) ≤ 8388608 := by rw [sb_size, HAl.out]; have := HP.out; omega
  clear hA hAl hAk hn8 hc8
  refine (tag_any k (sb A) (by rw [sb_size, HAl.out]; have := HP.out; omega) _ (HG.out.no HF2.out)).mono ?_
  rintro e w3 ⟨rfl, hf3⟩
  rw [sb_list]
  have HF3 := hid (HF2.out.trans' hf3)
  have ht8 : ((sb (k.tag A)).size : Int) ≤ 8388608 := by rw [sb_size, k.tag_length]; decide
  clear hf3 HB2
  go_wp2_with fail
  rw [sb_append]
  go_ret2
  refine ⟨?_, HF3.out⟩
  unfold told Ky.seal
  rw [HAk.out]
  rfl
theorem slice_to (x : S) (m : Nat) (h2 : m ≤ x.size) (w : World) : (Instr.slice 9 (.string x) none (some (.int .i64 (m : Int))) none).run Try.prog w = .ok (.string (sb (x.data.toList.take m))) w := by
  rw [show sb (x.data.toList.take m) = x.extract 0 m by rw [ext_sb, List.drop_zero, Nat.sub_zero]]
  have hj : 0 ≤ (m : Int) ∧ (m : Int) ≤ (x.size : Int) := by omega
  simp [Instr.slice, Instr.sliceBounds, Instr.sliceBound, asIntOf, run_underlying Try.underlying9, hj]
  intro hc
  omega
theorem slice_from (x : S) (m : Nat) (h2 : m ≤ x.size) (w : World) : (Instr.slice 9 (.string x) (some (.int .i64 (m : Int))) none none).run Try.prog w = .ok (.string (sb (x.data.toList.drop m))) w := by
  rw [show sb (x.data.toList.drop m) = x.extract m x.size by rw [ext_sb, List.take_of_length_le (by rw [List.length_drop, size_list]; exact Nat.le_refl _)]]
  have hj : 0 ≤ (m : Int) ∧ (m : Int) ≤ (x.size : Int) := by omega
  simp [Instr.slice, Instr.sliceBounds, Instr.sliceBound, asIntOf, run_underlying Try.underlying9, hj]
  intro hc
  omega
theorem exec_to {op : Oper} {a : Act} (x h : Operand) (ho : op.op = .slice 9 x none (some h) none) (s : S) (m : Nat) (hx : a.eval x = .string s) (hh : a.eval h = .int .i64 (m : Int)) (hm : m ≤ s.size) (r : List UInt8) (hr : s.data.toList.take m = r) (w : World) :
    (execOp a.eval op).run Try.prog w = .ok (.value (.string (sb r))) w := by
  subst hr
  unfold execOp
  simp only [ho, Option.map_none, Option.map_some, hx, hh]
  simp [Instr.sliceAt, slice_to s m hm w, Result.andThen]
theorem exec_from {op : Oper} {a : Act} (x h : Operand) (ho : op.op = .slice 9 x (some h) none none) (s : S) (m : Nat) (hx : a.eval x = .string s) (hh : a.eval h = .int .i64 (m : Int)) (hm : m ≤ s.size) (r : List UInt8) (hr : s.data.toList.drop m = r) (w : World) :
    (execOp a.eval op).run Try.prog w = .ok (.value (.string (sb r))) w := by
  subst hr
  unfold execOp
  simp only [ho, Option.map_none, Option.map_some, hx, hh]
  simp [Instr.sliceAt, slice_from s m hm w, Result.andThen]
theorem neq_sb (a b : List UInt8) : ((sb a).toList == (sb b).toList) = decide (a = b) := by
  rw [ByteArray.toList_eq, ByteArray.toList_eq, sb_list, sb_list]
  by_cases h : a = b
  · subst h; simp
  · rw [decide_eq_false h]; exact beq_false_of_ne h

set_option maxHeartbeats 2000000 in
theorem kopen_any (k : Ky) (s : S) (hs : s.size ≤ 1000000) (w : World) (hg : SH.Gl w) : Calls Try.prog 60 #[k.val, .string s] w fun e w' =>
    e = told (k.open_ s.data.toList).1 (k.open_ s.data.toList).2 ∧ Fr No w w' := by
  have HG := hid hg
  have hsi : (s.size : Int) ≤ 1000000 := by omega
  obtain ⟨R, hR⟩ : ∃ R, k.open_ s.data.toList = R := ⟨_, rfl⟩
  rw [hR]
  have HR := hid hR
  clear hg hR
  go_enter Try.func60, Try.ntmps60
  go_wp2_with (first
    | ((with_reducible show wpList _ _ _ (⟨_, .box 59 _, _, _, _, _⟩ :: _) _ _); refine wpL_box rfl _ _ rfl k.val rfl k.cells rfl ?_; intro w1 HB1 HF1 HS1)
    | fail)
  refine (long_any 0 (by decide) (by decide) _).mono ?_
  rintro e w2 ⟨rfl, rfl⟩
  by_cases h24 : s.size < 24
  · have hi : (s.size : Int) < 24 := by omega
    have hr : R = ([], 80) := by rw [← HR.out]; exact k.open_short (by rw [size_list]; exact h24)
    have HRR := hid hr
    clear hr h24
    go_wp2_with fail
    go_ret2
    refine ⟨?_, HF1.out⟩
    rw [HRR.out]
    rfl
  have hi : (24 : Int) ≤ (s.size : Int) := by omega
  obtain ⟨m, hm⟩ : ∃ m, s.size - 16 = m := ⟨_, rfl⟩
  have hmi : (s.size : Int) - 16 = (m : Int) := by omega
  have hm8 : (8 : Int) ≤ (m : Int) := by omega
  have HM := hid hm
  have hRo : R = (if k.tag (s.data.toList.take m) ≠ s.data.toList.drop m then ([], 80) else if 224 < s.size then ([], 2) else (cmb k.ek (sb (s.data.toList.take 8)) ((s.data.toList.take m).drop 8), 0)) := by
    rw [← HR.out]
    unfold Ky.open_
    rw [size_list, HM.out, if_neg h24]
  have HRo := hid hRo
  clear hm hRo HR h24
  go_wp2_with fail
  have hmle : m ≤ s.size := by have := HM.out; omega
  obtain ⟨P, hP⟩ : ∃ P, s.data.toList.take m = P := ⟨_, rfl⟩
  obtain ⟨T, hT⟩ : ∃ T, s.data.toList.drop m = T := ⟨_, rfl⟩
  have HP := hid hP; have HT := hid hT
  have hPl : P.length = m := by rw [← hP, List.length_take, size_list]; omega
  have HPl := hid hPl
  have HMLE := hid hmle
  clear hP hT hPl hmi hmle
  have hold : Facts.hold [] w2.drew := Facts.nil_hold _
  refine wpD_region hold (by kernel_rfl) 8 rfl ?_
  (refine wpD_plain 0 (v := ?_) rfl (by kernel_rfl) (by kernel_rfl) (by kernel_rfl) (fun _ _ _ h => h) (by rfl) ?_ (by assumption) ?_; rotate_left; (intro _w; go_simp; try with_reducible rfl); simp only [Act.put, List.setIfInBounds_toArray, List.set_cons_zero, List.set_cons_succ])
  (refine wpD_plain 1 (v := ?_) rfl (by kernel_rfl) (by kernel_rfl) (by kernel_rfl) (fun _ _ _ h => h) (by rfl) ?_ (by assumption) ?_; rotate_left; (intro _w; go_simp; try with_reducible rfl); simp only [Act.put, List.setIfInBounds_toArray, List.set_cons_zero, List.set_cons_succ])
  (refine wpD_plain 2 (v := (.string (sb P))) rfl (by kernel_rfl) (by kernel_rfl) (by kernel_rfl) (fun _ _ _ h => h) (by rfl) ?_ (by assumption) ?_; (intro _w; exact exec_to _ _ rfl s m rfl rfl HMLE.out P HP.out _w); simp only [Act.put, List.setIfInBounds_toArray, List.set_cons_zero, List.set_cons_succ])
  (refine wpD_plain 3 (v := ?_) rfl (by kernel_rfl) (by kernel_rfl) (by kernel_rfl) (fun _ _ _ h => h) (by rfl) ?_ (by assumption) ?_; rotate_left; (intro _w; go_simp; try with_reducible rfl); simp only [Act.put, List.setIfInBounds_toArray, List.set_cons_zero, List.set_cons_succ])
  (refine wpD_plain 4 (v := ?_) rfl (by kernel_rfl) (by kernel_rfl) (by kernel_rfl) (fun _ _ _ h => h) (by rfl) ?_ (by assumption) ?_; rotate_left; (intro _w; go_simp; try with_reducible rfl); simp only [Act.put, List.setIfInBounds_toArray, List.set_cons_zero, List.set_cons_succ])
  (refine wpD_plain 5 (v := (.string (sb T))) rfl (by kernel_rfl) (by kernel_rfl) (by kernel_rfl) (fun _ _ _ h => h) (by rfl) ?_ (by assumption) ?_; (intro _w; exact exec_from _ _ rfl s m rfl rfl HMLE.out T HT.out _w); simp only [Act.put, List.setIfInBounds_toArray, List.set_cons_zero, List.set_cons_succ])
  (refine wpD_plain 6 (v := ?_) rfl (by kernel_rfl) (by kernel_rfl) (by kernel_rfl) (fun _ _ _ h => h) (by rfl) ?_ (by assumption) ?_; rotate_left; (intro _w; go_simp; try with_reducible rfl); simp only [Act.put, List.setIfInBounds_toArray, List.set_cons_zero, List.set_cons_succ])
  (refine wpD_plain 7 (v := ?_) rfl (by kernel_rfl) (by kernel_rfl) (by kernel_rfl) (fun _ _ _ h => h) (by rfl) ?_ (by assumption) ?_; rotate_left; (intro _w; go_simp; try with_reducible rfl); simp only [Act.put, List.setIfInBounds_toArray, List.set_cons_zero, List.set_cons_succ])
  clear hold
  refine wpD_done (by kernel_rfl) ?_ _
  go_wp2_with (first
    | ((with_reducible show wpList _ _ _ (⟨_, .load 59 _, _, _, _, _⟩ :: _) _ _); refine wpL_load rfl _ _ rfl w.heap.size 0 rfl k.cells _ (ky_load HB1.out) Try.underlying59 rfl infoKy' ?_)
    | fail)
  refine (tag_any k (sb P) (by rw [sb_size, HPl.out]; have := HMLE.out; omega) _ (HG.out.no HF1.out.drew)).mono ?_
  rintro e w3 ⟨rfl, hf3⟩
  rw [sb_list]
  have HB3 := hid (HB1.out.drew.fr hf3 id)
  have HF3 := hid (HF1.out.drew.trans' hf3)
  have hRo := HRo.out
  rw [HP.out, HT.out] at hRo
  obtain ⟨G, hG⟩ : ∃ G, k.tag P = G := ⟨_, rfl⟩
  rw [hG] at hRo ⊢
  have HRp := hid hRo
  have hcmp := neq_sb G T
  clear hf3 hRo HB1 HF1 HS1 HRo hG
  by_cases hGT : G = T
  · rw [decide_eq_true hGT] at hcmp
    have HGT := hid hGT
    clear hGT
    go_wp2_with fail
    refine (long_any 200 (by decide) (by decide) _).mono ?_
    rintro e w4 ⟨rfl, rfl⟩
    have hrp := HRp.out
    rw [HGT.out, if_neg (fun h => h rfl)] at hrp
    have HRq := hid hrp
    clear hrp HRp
    by_cases h224 : 224 < s.size
    · have hi2 : (224 : Int) < (s.size : Int) := by omega
      have hr : R = ([], 2) := by rw [HRq.out, if_pos h224]
      have HRR := hid hr
      clear hr h224
      go_wp2_with fail
      go_ret2
      refine ⟨?_, HF3.out⟩
      rw [HRR.out]
      rfl
    · have hi2 : (s.size : Int) ≤ 224 := by omega
      have hr : R = (cmb k.ek (sb (s.data.toList.take 8)) (P.drop 8), 0) := by rw [HRq.out, if_neg h224]
      have e8 : s.data.toList.take 8 = P.take 8 := by rw [← HP.out, List.take_take, Nat.min_eq_left (by omega)]
      rw [e8] at hr
      have HRR := hid hr
      have hPz : (sb P).size = m := by rw [sb_size, HPl.out]
      have HPz := hid hPz
      clear hr h224 e8 hPz
      go_wp2_with fail
      have hold : Facts.hold [(0, fun w' => w'.rangeAt w.heap.size 0 k.cells)] w4.drew := Facts.cons_hold (ky_load HB3.out) (Facts.nil_hold _)
      refine wpD_region hold (by kernel_rfl) 8 rfl ?_
      (refine wpD_take 0 _ rfl (by kernel_rfl) (by kernel_rfl) (by kernel_rfl) (fun _ _ _ h => h) List.mem_cons_self (by rfl) (exec_load _ _ rfl w.heap.size 0 rfl _ _ rfl rfl infoKy') (by assumption) ?_; simp only [Act.put, List.setIfInBounds_toArray, List.set_cons_zero, List.set_cons_succ])
      (refine wpD_plain 1 (v := ?_) rfl (by kernel_rfl) (by kernel_rfl) (by kernel_rfl) (fun _ _ _ h => h) (by rfl) ?_ (by assumption) ?_; rotate_left; (intro _w; go_simp; try with_reducible rfl); simp only [Act.put, List.setIfInBounds_toArray, List.set_cons_zero, List.set_cons_succ])
      (refine wpD_plain 2 (v := (.string (sb (P.take 8)))) rfl (by kernel_rfl) (by kernel_rfl) (by kernel_rfl) (fun _ _ _ h => h) (by rfl) ?_ (by assumption) ?_; (intro _w; exact exec_to _ _ rfl (sb P) 8 rfl rfl (by rw [HPz.out]; omega) _ (by rw [sb_list]) _w); simp only [Act.put, List.setIfInBounds_toArray, List.set_cons_zero, List.set_cons_succ])
      (refine wpD_plain 3 (v := ?_) rfl (by kernel_rfl) (by kernel_rfl) (by kernel_rfl) (fun _ _ _ h => h) (by rfl) ?_ (by assumption) ?_; rotate_left; (intro _w; go_simp; try with_reducible rfl); simp only [Act.put, List.setIfInBounds_toArray, List.set_cons_zero, List.set_cons_succ])
      (refine wpD_plain 4 (v := (.string (sb (P.drop 8)))) rfl (by kernel_rfl) (by kernel_rfl) (by kernel_rfl) (fun _ _ _ h => h) (by rfl) ?_ (by assumption) ?_; (intro _w; exact exec_from _ _ rfl (sb P) 8 rfl rfl (by rw [HPz.out]; omega) _ (by rw [sb_list]) _w); simp only [Act.put, List.setIfInBounds_toArray, List.set_cons_zero, List.set_cons_succ])
      refine wpD_only 5 [] rfl (by kernel_rfl) (by kernel_rfl) (by rfl) (fun K5 hK5 => ?_)
      refine wp_call _ [_, _, _] _ rfl _ [] rfl (fun _ _ => by kernel_rfl) [k.val, .string (sb (P.take 8)), .string (sb (P.drop 8))] rfl ?_
      refine (combine_any k (sb (P.take 8)) (sb (P.drop 8)) (by rw [sb_size, List.length_take, HPl.out]; omega) (by rw [sb_size, List.length_drop, HPl.out]; have := HMLE.out; omega) _).mono ?_
      rintro e w5 ⟨rfl, hf5⟩
      rw [sb_list]
      have HF5 := hid (HF3.out.drew.trans' hf5)
      refine ⟨_, rfl, hK5 _ _ (Facts.nil_hold _) ?_⟩
      clear hK5 K5 hold hf5
      simp only [Act.put, List.setIfInBounds_toArray, List.set_cons_zero, List.set_cons_succ]
      have hold := Facts.nil_hold w5
      (refine wpD_plain 6 (v := ?_) rfl (by kernel_rfl) (by kernel_rfl) (by kernel_rfl) (fun _ _ _ h => h) (by rfl) ?_ (by assumption) ?_; rotate_left; (intro _w; go_simp; try with_reducible rfl); simp only [Act.put, List.setIfInBounds_toArray, List.set_cons_zero, List.set_cons_succ])
      (refine wpD_plain 7 (v := ?_) rfl (by kernel_rfl) (by kernel_rfl) (by kernel_rfl) (fun _ _ _ h => h) (by rfl) ?_ (by assumption) ?_; rotate_left; (intro _w; go_simp; try with_reducible rfl); simp only [Act.put, List.setIfInBounds_toArray, List.set_cons_zero, List.set_cons_succ])
      refine wpD_done (by kernel_rfl) ?_ _
      go_wp2_with fail
      go_ret2
      refine ⟨?_, HF5.out⟩
      rw [HRR.out]
      rfl
  · rw [decide_eq_false hGT] at hcmp
    have hr : R = ([], 80) := by rw [HRp.out, if_pos hGT]
    have HRR := hid hr
    clear hr hGT
    go_wp2_with fail
    go_ret2
    refine ⟨?_, HF3.out⟩
    rw [HRR.out]
    rfl
end Go.Proofs.Ytakmeipmngeilaa.SE
