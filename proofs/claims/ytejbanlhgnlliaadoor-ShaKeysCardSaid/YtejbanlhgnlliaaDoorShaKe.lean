/-
  The law ShaKeys.
-/
import Derived.Test.YtejbanlhgnlliaaDoorShaL
import Derived.Test.YtejbanlhgnlliaaDoorShaO
namespace Go.Proofs.YtejbanlhgnlliaaDoor.SH
set_option maxRecDepth 100000
open Go.RowKit K AR

theorem mac_long {key b : List UInt8} (h : 64 < key.length) : mac (digL key) b = mac key b := by
  have e : key64 (digL key) = key64 key := by
    rw [key64_long h, key64_short (by rw [digL_length]; decide)]
  unfold mac
  rw [e]
theorem mac_short {key b : List UInt8} (h : ¬ 64 < key.length) : mac (key ++ List.replicate (64 - key.length) 0) b = mac key b := by
  have hl : (key ++ List.replicate (64 - key.length) (0 : UInt8)).length = 64 := by rw [List.length_append, List.length_replicate]; omega
  have e : key64 (key ++ List.replicate (64 - key.length) 0) = key64 key := by
    rw [key64_short (by rw [hl]; decide), hl, key64_short h]
    simp
  unfold mac
  rw [e]
set_option maxHeartbeats 4000000 in
theorem shaKeys_walk (W : World) (k x : List UInt8) (vk v : Value) {E E' : Nat → Prop} (hg : Gl W) (hk : BytesIn W E' vk k) (hx : BytesIn W E v x) (hkl : k.length ≤ 140737488351232) (hl : x.length ≤ 140737488351232) : Calls Tryd.prog 6 #[vk, v] W fun e w' => e = .returned (.bool true) ∧ Fr No W w' := by
  have HG := hid hg; have HX := hid hx; have HK := hid hk; have HL := hid (show k.length ≤ 140737488355200 ∧ x.length ≤ 140737488355200 by omega)
  obtain ⟨a, n, c, rfl, -, -, -⟩ := hx
  obtain ⟨ak, nk, ck, rfl, hkn, hkc, -⟩ := hk
  have hnki : (nk : Int) ≤ 140737488351232 := by omega
  have HKN := hid hkn
  clear hg hl hkl hkn hkc
  go_enter Tryd.func6, Tryd.ntmps6
  go_wp2_with fail
  refine (awake_any _ HG.out).mono ?_
  rintro e w1 ⟨rfl, hf1⟩
  have HF1 := hid hf1
  clear hf1
  go_wp2_with fail
  refine (pmac_any k x _ _ _ (HK.out.no HF1.out) (HX.out.no HF1.out) (HG.out.no HF1.out) HL.out.1 HL.out.2).mono ?_
  rintro e w2 ⟨rfl, hf2⟩
  have HF2 := hid (HF1.out.trans' hf2)
  clear hf2 HF1
  by_cases hlong : 64 < nk
  · have hlong2 : (64 : Int) < (nk : Int) := by omega
    go_wp2_with (first
      | ((with_reducible show wpList _ _ _ ({ dst := _, op := .alloc 24, type := _, pos := _, after := _, guard := _ } :: _) _ _); refine wpL_alloc rfl _ rfl _ zero32b (bw .u8 (fun _ => 0) 32) rfl ?_; intro w3 HB3 HF3 HS3)
      | ((with_reducible show wpList _ _ _ ({ dst := _, op := .store 24 _ _, type := _, pos := _, after := _, guard := _ } :: _) _ _); refine wpL_whole rfl _ _ _ rfl w2.heap.size (mac k x) 32 rfl rfl _ _ HB3.out info32b ?_; intro w4 HB4 HF4 HS4)
      | fail)
    obtain ⟨b6, hb6⟩ : ∃ b, w2.heap.size = b := ⟨_, rfl⟩
    have hf := (HF2.out.trans' HF3.out).trans HF4.out fun i e => .inr (by have := HF2.out.size; have : i = w2.heap.size := e; omega)
    have hB := HB4.out
    rw [hb6] at hB ⊢
    have HR := hid (show Blk w4 b6 24 (bw .u8 (mac k x) 32) ∧ Fr No W w4 from ⟨hB, hf⟩)
    clear HF2 HB3 HF3 HS3 HB4 HF4 HS4 hb6 hf hB
    refine (psum_any k _ _ (HK.out.no HR.out.2) (HG.out.no HR.out.2) HL.out.1).mono ?_
    rintro e w5 ⟨rfl, hf5⟩
    have HF5 := hid hf5
    clear hf5
    go_wp2_with (first
      | ((with_reducible show wpList _ _ _ ({ dst := _, op := .alloc 24, type := _, pos := _, after := _, guard := _ } :: _) _ _); refine wpL_alloc rfl _ rfl _ zero32b (bw .u8 (fun _ => 0) 32) rfl ?_; intro w6 HB6 HF6 HS6)
      | ((with_reducible show wpList _ _ _ ({ dst := _, op := .store 24 _ _, type := _, pos := _, after := _, guard := _ } :: _) _ _); refine wpL_whole rfl _ _ _ rfl w5.heap.size (dig k) 32 rfl rfl _ _ HB6.out info32b ?_; intro w7 HB7 HF7 HS7)
      | fail)
    obtain ⟨b7, hb7⟩ : ∃ b, w5.heap.size = b := ⟨_, rfl⟩
    have hm : Fr No w4 w7 := HF5.out.trans' (HF6.out.trans HF7.out fun i e => .inr (by have : i = w5.heap.size := e; omega))
    have hB7 := HB7.out
    rw [hb7, ← digL_cells] at hB7
    have hB7 : BytesIn w7 Any (.slice (some ⟨b7, 0, none⟩) 32 32) (digL k) := by
      have := Blk.bytes (E := Any) hB7 trivial (Nat.le_refl _)
      rwa [digL_length] at this
    have HR7 := hid (show Blk w7 b6 24 (bw .u8 (mac k x) 32) ∧ BytesIn w7 Any (.slice (some ⟨b7, 0, none⟩) 32 32) (digL k) ∧ Fr No W w7 from ⟨HR.out.1.fr hm id, hB7, HR.out.2.trans' hm⟩)
    rw [hb7]
    clear HR HF5 HB6 HF6 HS6 HB7 HF7 HS7 hb7 hm hB7
    refine (pmac_any (digL k) x _ _ _ HR7.out.2.1 (HX.out.no HR7.out.2.2) (HG.out.no HR7.out.2.2) (by rw [digL_length]; decide) HL.out.2).mono ?_
    rintro e w8 ⟨rfl, hf8⟩
    have hmac := mac_long (key := k) (b := x) (by have := HKN.out; omega)
    rw [hmac]
    clear hmac
    have HR8 := hid (show Blk w8 b6 24 (bw .u8 (mac k x) 32) ∧ Fr No W w8 from ⟨HR7.out.1.fr hf8 id, HR7.out.2.2.trans' hf8⟩)
    clear HR7 hf8
    go_wp2_with (first
      | ((with_reducible show wpList _ _ _ ({ dst := _, op := .alloc 24, type := _, pos := _, after := _, guard := _ } :: _) _ _); refine wpL_alloc rfl _ rfl _ zero32b (bw .u8 (fun _ => 0) 32) rfl ?_; intro w9 HB9 HF9 HS9)
      | ((with_reducible show wpList _ _ _ ({ dst := _, op := .store 24 _ _, type := _, pos := _, after := _, guard := _ } :: _) _ _); refine wpL_whole rfl _ _ _ rfl w8.heap.size (mac k x) 32 rfl rfl _ _ HB9.out info32b ?_; intro w10 HB10 HF10 HS10; have HBk := hid ((HR8.out.1.fr HF9.out id).fr HF10.out (fun e => by have := HR8.out.1.lt; have : b6 = w8.heap.size := e; omega)); have HFk := hid ((HR8.out.2.trans' HF9.out).trans HF10.out fun i e => .inr (by have := HR8.out.2.size; have : i = w8.heap.size := e; omega)))
      | ((with_reducible show wpList _ _ _ ({ dst := _, op := .load 24 _, type := _, pos := _, after := _, guard := _ } :: _) _ _); refine wpL_val (by rfl) (ba .u8 (mac k x) 32) (exec_load _ _ rfl b6 0 rfl (bw .u8 (mac k x) 32) _ rfl rfl (by simpa using info32b) _ (blk_whole HBk.out)) ?_)
      | ((with_reducible show wpList _ _ _ ({ dst := _, op := .load 24 _, type := _, pos := _, after := _, guard := _ } :: _) _ _); refine wpL_val (by rfl) (ba .u8 (mac k x) 32) (exec_load _ _ rfl w8.heap.size 0 rfl (bw .u8 (mac k x) 32) _ rfl rfl (by simpa using info32b) _ (blk_whole HB10.out)) ?_)
      | ((with_reducible show wpList _ _ _ ({ dst := _, op := .binOp .eql 24 _ _ _, type := _, pos := _, after := _, guard := _ } :: _) _ _); refine wpL_val (by rfl) (.bool true) (exec_eq32 _ _ _ rfl (mac k x) rfl rfl _) ?_)
      | fail)
    go_ret
    exact ⟨rfl, HFk.out⟩
  · have hlong2 : ¬ (64 : Int) < (nk : Int) := by omega
    have hlk : (nk : Int) ≤ 64 := by omega
    obtain ⟨z, hz⟩ : ∃ z, 64 - nk = z := ⟨_, rfl⟩
    have hzi : (64 : Int) - (nk : Int) = (z : Int) := by omega
    have HZ := hid hz
    clear hz
    go_wp2_with (first
      | ((with_reducible show wpList _ _ _ ({ dst := _, op := .alloc 24, type := _, pos := _, after := _, guard := _ } :: _) _ _); refine wpL_alloc rfl _ rfl _ zero32b (bw .u8 (fun _ => 0) 32) rfl ?_; intro w3 HB3 HF3 HS3)
      | ((with_reducible show wpList _ _ _ ({ dst := _, op := .store 24 _ _, type := _, pos := _, after := _, guard := _ } :: _) _ _); refine wpL_whole rfl _ _ _ rfl w2.heap.size (mac k x) 32 rfl rfl _ _ HB3.out info32b ?_; intro w4 HB4 HF4 HS4; have HF14 := hid ((HF2.out.trans' HF3.out).trans HF4.out fun i e => .inr (by have := HF2.out.size; have : i = w2.heap.size := e; omega)))
      | ((with_reducible show wpList _ _ _ ({ dst := _, op := .buildSlice 22 _ _, type := _, pos := _, after := _, guard := _ } :: _) _ _); refine wpL_buildNone rfl _ 5 rfl buildE ?_; intro w5 HB5 HF5 HS5; have HO5 := hid (owB_new (w0 := w4) HB5.out (Nat.le_refl _) HF5.out))
      | ((with_reducible show wpList _ _ _ ({ dst := _, op := .call { callee := .builtin .append, args := _, argTypes := _ }, type := _, pos := _, after := _, guard := _ } :: _) _ _); have := HO6; refine wpL_appZ rfl _ _ rfl HO6.out HA6.out rfl z rfl 64 (by have := HKN.out; have := HZ.out; omega) (k ++ List.replicate z 0) rfl (by decide) ?_; intro a7 c7 w7 HO7 HF7)
      | ((with_reducible show wpList _ _ _ ({ dst := _, op := .call { callee := .builtin .append, args := _, argTypes := _ }, type := _, pos := _, after := _, guard := _ } :: _) _ _); refine wpL_appB rfl _ _ rfl HO5.out rfl ak nk ck k rfl HKN.out ((src_of (HK.out.no (HF14.out.trans' HF5.out))).2) nk (by simp) k rfl (by omega) ?_; intro a6 c6 w6 HO6 HG6 HA6'; have HA6 := hid (show (Value.slice a6 nk c6).ownBlock ≠ none from by rcases HA6'.out with h | h <;> rw [h] <;> intro e <;> cases e))
      | fail)
    obtain ⟨b6, hb6⟩ : ∃ b, w2.heap.size = b := ⟨_, rfl⟩
    have hB := HB4.out
    rw [hb6] at hB ⊢
    have HR7 := hid (show Blk w7 b6 24 (bw .u8 (mac k x) 32) ∧ BytesIn w7 Any (.slice a7 64 c7) (k ++ List.replicate z 0) ∧ Fr No W w7 from
      ⟨hB.fr HO7.out.fr id, HO7.out.bytes.any, HF14.out.trans' HO7.out.fr⟩)
    clear HF2 HB3 HF3 HS3 HB4 HF4 HS4 HF14 HB5 HF5 HS5 HO5 HO6 HG6 HA6' HA6 HO7 HF7 hb6 hB this
    refine (pmac_any (k ++ List.replicate z 0) x _ _ _ HR7.out.2.1 (HX.out.no HR7.out.2.2) (HG.out.no HR7.out.2.2) (by rw [List.length_append, List.length_replicate]; have := HKN.out; have := HZ.out; omega) HL.out.2).mono ?_
    rintro e w8 ⟨rfl, hf8⟩
    have hmac := mac_short (key := k) (b := x) (by have := HKN.out; omega)
    rw [HKN.out, HZ.out] at hmac
    rw [hmac]
    clear hmac
    have HR8 := hid (show Blk w8 b6 24 (bw .u8 (mac k x) 32) ∧ Fr No W w8 from ⟨HR7.out.1.fr hf8 id, HR7.out.2.2.trans' hf8⟩)
    clear HR7 hf8
    go_wp2_with (first
      | ((with_reducible show wpList _ _ _ ({ dst := _, op := .alloc 24, type := _, pos := _, after := _, guard := _ } :: _) _ _); refine wpL_alloc rfl _ rfl _ zero32b (bw .u8 (fun _ => 0) 32) rfl ?_; intro w9 HB9 HF9 HS9)
      | ((with_reducible show wpList _ _ _ ({ dst := _, op := .store 24 _ _, type := _, pos := _, after := _, guard := _ } :: _) _ _); refine wpL_whole rfl _ _ _ rfl w8.heap.size (mac k x) 32 rfl rfl _ _ HB9.out info32b ?_; intro w10 HB10 HF10 HS10; have HBk := hid ((HR8.out.1.fr HF9.out id).fr HF10.out (fun e => by have := HR8.out.1.lt; have : b6 = w8.heap.size := e; omega)); have HFk := hid ((HR8.out.2.trans' HF9.out).trans HF10.out fun i e => .inr (by have := HR8.out.2.size; have : i = w8.heap.size := e; omega)))
      | ((with_reducible show wpList _ _ _ ({ dst := _, op := .load 24 _, type := _, pos := _, after := _, guard := _ } :: _) _ _); refine wpL_val (by rfl) (ba .u8 (mac k x) 32) (exec_load _ _ rfl b6 0 rfl (bw .u8 (mac k x) 32) _ rfl rfl (by simpa using info32b) _ (blk_whole HBk.out)) ?_)
      | ((with_reducible show wpList _ _ _ ({ dst := _, op := .load 24 _, type := _, pos := _, after := _, guard := _ } :: _) _ _); refine wpL_val (by rfl) (ba .u8 (mac k x) 32) (exec_load _ _ rfl w8.heap.size 0 rfl (bw .u8 (mac k x) 32) _ rfl rfl (by simpa using info32b) _ (blk_whole HB10.out)) ?_)
      | ((with_reducible show wpList _ _ _ ({ dst := _, op := .binOp .eql 24 _ _ _, type := _, pos := _, after := _, guard := _ } :: _) _ _); refine wpL_val (by rfl) (.bool true) (exec_eq32 _ _ _ rfl (mac k x) rfl rfl _) ?_)
      | fail)
    go_ret
    exact ⟨rfl, HFk.out⟩
end Go.Proofs.YtejbanlhgnlliaaDoor.SH
