/-
  The program's hash: Sum.
-/
import Derived.Test.YtejbanlhgnlliaaDoorShaV
namespace Go.Proofs.YtejbanlhgnlliaaDoor.SH
set_option maxRecDepth 100000
open Go.RowKit K AR

theorem pad_getD (l : List UInt8) {i : Nat} (h : i < l.length) : (pad l).getD i 0 = l.getD i 0 := by
  unfold pad
  rw [List.append_assoc, List.append_assoc, getD_append _ _ h]
theorem hs_pad (l : List UInt8) : hs (pad l) (l.length / 64) = hs l (l.length / 64) := hs_congr _ fun i hi => pad_getD l (by omega)
set_option maxHeartbeats 8000000 in
theorem hsum_any (b : Nat) (l : List UInt8) (w : World) (hh : HashAt w b l) (hg : Gl w) (hl : l.length ≤ 281474976710656) :
    Calls Tryd.prog 14 #[.pointer (some ⟨b, 0, none⟩)] w fun e w' => e = .returned (ba .u8 (dig l) 32) ∧ Fr No w w' := by
  have HH := hid hh; have HG := hid hg; have HL := hid hl
  obtain ⟨f, hB, -, -⟩ := hh
  have HST := hid (hs_lt l (l.length / 64))
  have HB := hid (show w.rangeAt b 0 (bw .u32 (hs l (l.length / 64)) 8) from hB.range 0 _ (by rw [bw_length]; exact hc_state l f))
  have HBW := hid hB.lt
  obtain ⟨S, hS⟩ : ∃ S, hs l (l.length / 64) = S := ⟨_, rfl⟩
  rw [hS] at HB HST
  have HSE := hid hS
  clear hB hg hl hS
  refine calls_marks Tryd.func14 rfl ?_
  simp only [Tryd.ntmps14, List.size_toArray, List.length_cons, List.length_nil, Nat.reduceAdd, Nat.reduceSub, Array.replicate_succ, Array.replicate_zero, List.push_toArray, List.append_toArray, List.nil_append, List.cons_append]
  go_wp2_with (first
    | ((with_reducible show wpList _ _ _ ({ dst := _, op := .alloc 24, type := _, pos := _, after := _, guard := _ } :: _) _ _); refine wpL_alloc rfl _ rfl _ zero32b (bw .u8 (fun _ => 0) 32) rfl ?_; intro w1 HB1 HF1 HS1)
    | ((with_reducible show wpList _ _ _ ({ dst := _, op := .load 41 _, type := _, pos := _, after := _, guard := _ } :: _) _ _); refine wpL_load rfl _ _ rfl b 0 rfl (bw .u32 S 8) _ (HF1.out.range HB.out id) Tryd.underlying41 rfl (by simpa using info8w) ?_)
    | ((with_reducible show wpList _ _ _ ({ dst := _, op := .alloc 41, type := _, pos := _, after := _, guard := _ } :: _) _ _); refine wpL_alloc rfl _ rfl _ zero8w (bw .u32 (fun _ => 0) 8) rfl ?_; intro w2 HB2 HF2 HS2)
    | ((with_reducible show wpList _ _ _ ({ dst := _, op := .store 41 _ _, type := _, pos := _, after := _, guard := _ } :: _) _ _); refine wpL_whole rfl _ _ _ rfl w1.heap.size S 8 rfl rfl _ _ HB2.out info8w ?_; intro w3 HB3 HF3 HS3)
    | fail)
  obtain ⟨b2, hb2⟩ : ∃ x, w.heap.size = x := ⟨_, rfl⟩
  obtain ⟨b3, hb3⟩ : ∃ x, w1.heap.size = x := ⟨_, rfl⟩
  have hf13 : Fr No w1 w3 := HF2.out.trans HF3.out fun i e => .inr (by have : i = w1.heap.size := e; omega)
  have hf3 : Fr No w w3 := HF1.out.trans' hf13
  refine (ppad_any b l _ (HH.out.fr hf3 id) HL.out).mono ?_
  rintro e w4 ⟨v, rfl, hO⟩
  have hlen : (pad l).length % 64 = 0 := pad_blocks l
  have hpl := pad_length l
  have hpz := padz_lt l.length
  have hq := q64_le l
  obtain ⟨al, hal⟩ : ∃ al, (pad l).drop (q64 l) = al := ⟨_, rfl⟩
  have hall : al.length = (pad l).length - q64 l := by rw [← hal, List.length_drop]
  rw [hal] at hO
  have hal9 : al.length ≤ 300 := by unfold q64 at hall; omega
  have hal0 : 0 < al.length := by omega
  obtain ⟨N, hN⟩ : ∃ N, al.length / 64 = N := ⟨_, rfl⟩
  have hN64 : al.length = 64 * N := by unfold q64 at hall; omega
  have hPN : (pad l).length / 64 = l.length / 64 + N := by unfold q64 at hall; omega
  obtain ⟨a, len, c, rfl, hlen2, hlc, h3⟩ := hO.bytes
  obtain ⟨g, o, rfl, hgw, hg4, hA⟩ := h3.resolve_left (by omega)
  have HR4 := hid (show Blk w4 b2 24 (bw .u8 (fun _ => 0) 32) ∧ Blk w4 b3 41 (bw .u32 (fold al S ([] : List (Fin N))) 8) ∧ w4.rangeAt g o (u8s al) ∧ Gl w4 ∧ Fr No w w4 from
    ⟨by rw [← hb2]; exact (HB1.out.fr hf13 id).fr hO.fr id, by rw [← hb3]; exact HB3.out.fr hO.fr id, hA, HG.out.no (hf3.trans' hO.fr), hf3.trans' hO.fr⟩)
  have HLT := hid (show b2 < b3 ∧ b3 < g ∧ g < w4.heap.size ∧ w.heap.size = b2 ∧ b < b2 by
    have h1 := HS1.out; have h2 := HS2.out; have h3 := HS3.out; have h4 := HBW.out
    have : w3.heap.size ≤ g := hgw
    omega)
  have HAL := hid (show al.length = len ∧ len = 64 * N from ⟨hlen2, by omega⟩)
  have HDR := hid (show (pad l).drop (64 * (l.length / 64)) = al from hal)
  have HPN := hid hPN
  have hleni : (len : Int) ≤ 300 := by omega
  have hlen300 : len ≤ 300 := by omega
  have HLC := hid hlc
  rw [hb2, hb3]
  clear HB1 HF1 HS1 HB2 HF2 HS2 HB3 HF3 HS3 hf13 hf3 hb2 hb3 hO hlen hpl hpz hq hal hall hal9 hal0 hN hN64 hPN hlen2 hlc h3 hgw hg4 hA HB HBW HH
  go_wp2_with fail
  refine (blocks_any _ _ _ _).mono ?_
  rintro e w5 ⟨rfl, hbx, hf5, hs5⟩
  go_wp2_with fail
  obtain ⟨bx, hbxe⟩ : ∃ x, w4.heap.size = x := ⟨_, rfl⟩
  rw [hbxe] at hbx ⊢
  have HBX := hid (show w5.cell? ⟨bx, 0, none⟩ = some (.slice (some ⟨g, o, none⟩) len c) ∧ bx < w5.heap.size ∧ g < bx from ⟨hbx, by omega, by have := HLT.out; omega⟩)
  have HI := hid (show Blk w5 b2 24 (bw .u8 (fun _ => 0) 32) ∧ Blk w5 b3 41 (bw .u32 (fold al S ([] : List (Fin N))) 8) ∧ w5.rangeAt g o (u8s al) ∧ Gl w5 ∧ Fr No w w5 ∧ w5.heap.size ≤ w5.heap.size from
    ⟨HR4.out.1.fr hf5 id, HR4.out.2.1.fr hf5 id, hf5.range HR4.out.2.2.1 id, HR4.out.2.2.2.1.no hf5, HR4.out.2.2.2.2.trans' hf5, Nat.le_refl _⟩)
  clear HR4 hf5 hs5 hbx hbxe
  refine wp_range1 (gf := 27) (lb := #[.pointer (some ⟨bx, 0, none⟩)]) rfl (enters_of Tryd.func27 (by kernel_rfl) rfl) (fun x : Fin N => .slice (some ⟨g, o + 64 * x.val, none⟩) 64 (c - 64 * x.val)) (bx := bx) HBX.out.2.1
    (blocks_stops bx g o len c N (by have := HAL.out; omega) (by omega) HLC.out w5 HBX.out.2.1 HBX.out.1) (by simp)
    (fun pre W => Hid (Blk W b2 24 (bw .u8 (fun _ => 0) 32) ∧ Blk W b3 41 (bw .u32 (fold al S pre) 8) ∧ W.rangeAt g o (u8s al) ∧ Gl W ∧ Fr No w W ∧ w5.heap.size ≤ W.heap.size)) ?_ HI ?_ ?_
  · intro pre A B row h hg hr
    have hlt := HLT.out; have hlx := HBX.out.2
    have hrow : ∀ x, row = some x → w5.heap.size ≤ x := fun x e => (hr x e).1
    have hf : Fr (fun k => row = some k) A B := ⟨hg.os, hg.tape, hg.output, hg.size, fun k hk hn => hg.block k hk (fun e => hn e.symm)⟩
    have hgs := HG.out.size
    refine hid ⟨h.out.1.fr hf (fun e => by have := hrow _ e; omega), h.out.2.1.fr hf (fun e => by have := hrow _ e; omega), hf.range h.out.2.2.1 (fun e => by have := hrow _ e; omega), h.out.2.2.2.1.fr hf ⟨fun e => by have := hrow _ e; omega, fun e => by have := hrow _ e; omega⟩, fr_row h.out.2.2.2.2.1 hg (fun x e => by have := hrow x e; omega), Nat.le_trans h.out.2.2.2.2.2 hg.size⟩
  · rintro lp pre x W hI hlen
    simp only [List.setIfInBounds_toArray, List.set_cons_zero, List.set_cons_succ]
    have hx : 64 * x.val + 64 ≤ al.length := by have := x.isLt; have := HAL.out; omega
    obtain ⟨T, hT⟩ : ∃ T, fold al S pre = T := ⟨_, rfl⟩
    have hTB : B32 T := hT ▸ fold_lt pre S HST.out
    have hnx := fold_snoc al S pre x
    rw [hT] at hnx
    have HNX := hid hnx
    have hb := hI.out
    rw [hT] at hb
    have HJ := hid hb
    clear hI hb hT hnx
    refine wpIn_block ?_
    refine wpIn_region_plain (by rfl) (fun ⟨_, _, h⟩ => h) ?_
    go_wp2_with (first
      | ((with_reducible show wpList _ _ _ ({ dst := _, op := .load 41 _, type := _, pos := _, after := _, guard := _ } :: _) _ _); refine wpL_all rfl _ _ rfl b3 rfl _ T 8 _ HJ.out.2.1 rfl rfl info8w ?_)
      | fail)
    refine (next_any T hTB (byt al x.val) (byt_lt al x.val) g (o + 64 * x.val) (c - 64 * x.val) W (fun i hi => byt_cell HJ.out.2.2.1 hx i hi) HJ.out.2.2.2.1).mono ?_
    rintro e W1 ⟨rfl, hf1⟩
    have HF1 := hid hf1
    have HB1 := hid (HJ.out.2.1.fr hf1 id)
    clear hf1
    go_wp2_with (first
      | ((with_reducible show wpList _ _ _ ({ dst := _, op := .store 41 _ _, type := _, pos := _, after := _, guard := _ } :: _) _ _); refine wpL_whole rfl _ _ _ rfl b3 (comp T (mB (byt al x.val))) 8 rfl rfl _ _ HB1.out info8w ?_; intro W2 HB2 HF2 HS2)
      | fail)
    have hb2 := HB2.out
    rw [← HNX.out] at hb2
    have hlt := HLT.out; have hlx := HBX.out.2; have hgs := HG.out.size
    have hfr : Fr (fun k => k = b3) W W2 := (Fr.no HF1.out).trans' HF2.out
    exact ⟨keepsFrom_fr hfr fun k e => by omega, hfr.block bx (Nat.lt_of_lt_of_le hlx.1 HJ.out.2.2.2.2.2) (fun e => by omega),
      hid ⟨HJ.out.1.fr hfr (by omega), hb2, hfr.range HJ.out.2.2.1 (by omega), HJ.out.2.2.2.1.fr hfr ⟨by omega, by omega⟩, HJ.out.2.2.2.2.1.trans hfr fun k e => .inr (by have : k = b3 := e; omega), Nat.le_trans HJ.out.2.2.2.2.2 hfr.size⟩⟩
  · rintro D xs W hD rfl hI hK
    have hfold : fold al S (fins N N (Nat.le_refl N)) = hs (pad l) ((pad l).length / 64) := by
      rw [HPN.out, ← HSE.out, ← hs_pad l]
      exact fold_fins HDR.out N (Nat.le_refl N)
    have hi := hI.out
    rw [hfold] at hi
    have HJ := hid hi
    have HK := hid hK
    clear hI hi hfold hK
    go_wp2_with (first
      | ((with_reducible show wpList _ _ _ ({ dst := _, op := .load 41 _, type := _, pos := _, after := _, guard := _ } :: _) _ _); refine wpL_all rfl _ _ rfl b3 rfl _ (hs (pad l) ((pad l).length / 64)) 8 _ HJ.out.2.1 rfl rfl info8w ?_)
      | fail)
    refine (digest_any _ _).mono ?_
    rintro e W1 ⟨rfl, hf1⟩
    have HF1 := hid hf1
    have HB1 := hid (HJ.out.1.fr hf1 id)
    clear hf1
    go_wp2_with (first
      | ((with_reducible show wpList _ _ _ ({ dst := _, op := .store 24 _ _, type := _, pos := _, after := _, guard := _ } :: _) _ _); refine wpL_whole rfl _ _ _ rfl b2 (dig l) 32 rfl rfl _ _ HB1.out info32b ?_; intro W2 HB2 HF2 HS2)
      | fail)
    have hlt := HLT.out; have hlx := HBX.out.2
    have hfr : Fr (fun k => k = b2) W W2 := (Fr.no HF1.out).trans' HF2.out
    have hK2 := (hfr.block D (Array.getElem?_eq_some_iff.1 HK.out).1 (fun e => by omega)).trans HK.out
    refine marks_ret rfl hK2 rfl _ rfl HB2.out rfl rfl (by simpa using info32b) ?_
    intro w' hf'
    exact ⟨rfl, (HJ.out.2.2.2.2.1.trans hfr fun k e => .inr (by have : k = b2 := e; omega)).trans hf' fun k e => .inr (by have : k = D := e; omega)⟩
end Go.Proofs.YtejbanlhgnlliaaDoor.SH
