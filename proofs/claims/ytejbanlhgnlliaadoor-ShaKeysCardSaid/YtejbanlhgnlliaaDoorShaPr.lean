/-
  The program's sha: sumAfter, Sum, combine, Mac.
-/
import Derived.Test.YtejbanlhgnlliaaDoorShaX
import Derived.Test.YtejbanlhgnlliaaDoorShaC
namespace Go.Proofs.YtejbanlhgnlliaaDoor.SH
set_option maxRecDepth 100000
open Go.RowKit K AR

set_option maxHeartbeats 2000000 in
theorem after_any (x y : List UInt8) (vx vy : Value) (w : World) {E E' : Nat → Prop} (hx : BytesIn w E vx x) (hy : BytesIn w E' vy y) (hg : Gl w) (hlx : x.length ≤ 140737488355200) (hly : y.length ≤ 140737488355200) :
    Calls Tryd.prog 16 #[vx, vy] w fun e w' => e = .returned (ba .u8 (dig (x ++ y)) 32) ∧ Fr No w w' := by
  have HX := hid hx; have HY := hid hy; have HG := hid hg; have HLX := hid hlx; have HLY := hid hly
  obtain ⟨ax, lx, cx, rfl, -, -, -⟩ := hx
  obtain ⟨ay, ly, cy, rfl, -, -, -⟩ := hy
  clear hg hlx hly
  go_enter Tryd.func16, Tryd.ntmps16
  go_wp2_with (first
    | ((with_reducible show wpList _ _ _ ({ dst := _, op := .alloc 24, type := _, pos := _, after := _, guard := _ } :: _) _ _); refine wpL_alloc rfl _ rfl _ zero32b (bw .u8 (fun _ => 0) 32) rfl ?_; intro w1 HB1 HF1 HS1)
    | fail)
  refine (new_any _ (HG.out.no HF1.out)).mono ?_
  rintro e w2 ⟨rfl, hh, hf2⟩
  obtain ⟨b1, hb1⟩ : ∃ b, w.heap.size = b := ⟨_, rfl⟩
  obtain ⟨b2, hb2⟩ : ∃ b, w1.heap.size = b := ⟨_, rfl⟩
  have hgs := HG.out.size
  have hlt : b1 < b2 ∧ 0 < b1 ∧ 1 < b1 := by have := HS1.out; omega
  have hf02 := HF1.out.trans' hf2
  have HR := hid (show Blk w2 b1 24 (bw .u8 (fun _ => 0) 32) ∧ HashAt w2 b2 [] ∧ Gl w2 ∧ Fr No w w2 by
    rw [← hb1, ← hb2]
    exact ⟨HB1.out.fr hf2 id, hh, HG.out.no hf02, hf02⟩)
  have HLT := hid (show b1 < b2 ∧ 0 < b1 ∧ 1 < b1 ∧ w.heap.size = b1 from ⟨hlt.1, hlt.2.1, hlt.2.2, hb1⟩)
  rw [hb1, hb2]
  clear HB1 HF1 HS1 hh hf2 hf02 hb1 hb2 hlt hgs
  go_wp2_with fail
  refine (write_any b2 [] x _ _ HR.out.2.1 (HX.out.no HR.out.2.2.2) HR.out.2.2.1 ⟨by have := HLT.out; omega, by have := HLT.out; omega⟩ (by have := HLX.out; simp; omega) HLX.out).mono ?_
  rintro e w3 ⟨rfl, hh3, hf3⟩
  rw [List.nil_append] at hh3
  have HR3 := hid (show Blk w3 b1 24 (bw .u8 (fun _ => 0) 32) ∧ HashAt w3 b2 x ∧ Gl w3 ∧ Fr No w w3 from
    ⟨HR.out.1.fr hf3 (by have := HLT.out; omega), hh3, HR.out.2.2.1.fr hf3 ⟨by have := HLT.out; omega, by have := HLT.out; omega⟩, HR.out.2.2.2.trans hf3 fun k e => .inr (by have := HLT.out; have : k = b2 := e; omega)⟩)
  clear HR hh3 hf3
  go_wp2_with fail
  refine (write_any b2 x y _ _ HR3.out.2.1 (HY.out.no HR3.out.2.2.2) HR3.out.2.2.1 ⟨by have := HLT.out; omega, by have := HLT.out; omega⟩ (by have := HLX.out; have := HLY.out; omega) HLY.out).mono ?_
  rintro e w4 ⟨rfl, hh4, hf4⟩
  have HR4 := hid (show Blk w4 b1 24 (bw .u8 (fun _ => 0) 32) ∧ HashAt w4 b2 (x ++ y) ∧ Gl w4 ∧ Fr No w w4 from
    ⟨HR3.out.1.fr hf4 (by have := HLT.out; omega), hh4, HR3.out.2.2.1.fr hf4 ⟨by have := HLT.out; omega, by have := HLT.out; omega⟩, HR3.out.2.2.2.trans hf4 fun k e => .inr (by have := HLT.out; have : k = b2 := e; omega)⟩)
  clear HR3 hh4 hf4
  go_wp2_with fail
  refine (hsum_any b2 (x ++ y) _ HR4.out.2.1 HR4.out.2.2.1 (by have := HLX.out; have := HLY.out; rw [List.length_append]; omega)).mono ?_
  rintro e w5 ⟨rfl, hf5⟩
  have HB5 := hid (HR4.out.1.fr hf5 id)
  have HF5 := hid (HR4.out.2.2.2.trans' hf5)
  clear HR4 hf5
  go_wp2_with (first
    | ((with_reducible show wpList _ _ _ ({ dst := _, op := .store 24 _ _, type := _, pos := _, after := _, guard := _ } :: _) _ _); refine wpL_whole rfl _ _ _ rfl b1 (dig (x ++ y)) 32 rfl rfl _ _ HB5.out info32b ?_; intro w6 HB6 HF6 HS6)
    | fail)
  refine ret_cell rfl _ rfl HB6.out rfl rfl (by simpa using info32b) rfl ?_
  exact ⟨rfl, HF5.out.trans HF6.out fun k e => .inr (by have := HLT.out; have : k = b1 := e; omega)⟩
theorem psum_any (l : List UInt8) (v : Value) (w : World) {E : Nat → Prop} (hb : BytesIn w E v l) (hg : Gl w) (hl : l.length ≤ 140737488355200) :
    Calls Tryd.prog 8 #[v] w fun e w' => e = .returned (ba .u8 (dig l) 32) ∧ Fr No w w' := by
  have HB := hid hb; have HG := hid hg; have HL := hid hl
  obtain ⟨a, n, c, rfl, -, -, -⟩ := hb
  clear hg hl
  go_enter Tryd.func8, Tryd.ntmps8
  go_wp2_with (first
    | ((with_reducible show wpList _ _ _ ({ dst := _, op := .alloc 24, type := _, pos := _, after := _, guard := _ } :: _) _ _); refine wpL_alloc rfl _ rfl _ zero32b (bw .u8 (fun _ => 0) 32) rfl ?_; intro w1 HB1 HF1 HS1)
    | fail)
  refine (after_any [] l _ _ _ (bytes_nil _ No none 0) (HB.out.no HF1.out) (HG.out.no HF1.out) (by simp) HL.out).mono ?_
  rintro e w2 ⟨rfl, hf2⟩
  rw [List.nil_append]
  have HB2 := hid (HB1.out.fr hf2 id)
  have HF2 := hid (HF1.out.trans' hf2)
  clear hf2
  go_wp2_with (first
    | ((with_reducible show wpList _ _ _ ({ dst := _, op := .store 24 _ _, type := _, pos := _, after := _, guard := _ } :: _) _ _); refine wpL_whole rfl _ _ _ rfl w.heap.size (dig l) 32 rfl rfl _ _ HB2.out info32b ?_; intro w6 HB6 HF6 HS6)
    | fail)
  refine ret_cell rfl _ rfl HB6.out rfl rfl (by simpa using info32b) rfl ?_
  exact ⟨rfl, HF2.out.trans HF6.out fun k e => .inr (by have : k = w.heap.size := e; omega)⟩
theorem u8s_bw (l : List UInt8) : u8s l = bw .u8 (byt l 0) l.length := by
  have := u8s_byt l 0 l.length (by omega)
  rw [Nat.mul_zero, List.drop_zero] at this
  rw [← this]
  exact (List.take_of_length_le (by simp [u8s_length])).symm
theorem with_byt (c : UInt8) (k : List UInt8) (hk : k.length = 64) : bw .u8 (fun i => (k.getD i 0 ^^^ c).toNat) 64 = u8s (with_ c k) := by
  rw [u8s_bw, with_length, hk]
  refine bw_congr fun i hi => ?_
  unfold byt with_
  simp [List.getD, show i < k.length by omega]
theorem zero64b (w : World) : (zeroValue 47).run Tryd.prog w = .ok (ba .u8 (fun _ => 0) 64) w := by kernel_rfl
theorem info64b : (Tryd.prog.info? 47).map (·.size) = some 64 := by kernel_rfl
set_option maxHeartbeats 1000000 in
theorem combine_any (k : List UInt8) (hk : k.length = 64) (c : Nat) (hc : c < 256) (w : World) : Calls Tryd.prog 21 #[.agg (u8s k).toArray, .int .u8 (c : Int)] w fun e w' =>
    ∃ v, e = .returned v ∧ BytesIn w' (fun b => w.heap.size ≤ b) v (with_ (UInt8.ofNat c) k) ∧ Fr No w w' := by
  have HK := hid hk
  have hkb := u8s_bw k
  rw [hk] at hkb
  rw [hkb]
  have HC := hid hc
  clear hkb hk hc
  go_enter Tryd.func21, Tryd.ntmps21
  go_wp2_with (first
    | ((with_reducible show wpList _ _ _ ({ dst := _, op := .box 47 _, type := _, pos := _, after := _, guard := _ } :: _) _ _); refine wpL_box rfl _ _ rfl (ba .u8 (byt k 0) 64) rfl (bw .u8 (byt k 0) 64) rfl ?_; intro w1 HB1 HF1 HS1)
    | fail)
  obtain ⟨b2, hb2⟩ : ∃ b, w.heap.size = b := ⟨_, rfl⟩
  have HR := hid (show Blk w1 b2 47 (bw .u8 (upto 0 (fun i => (k.getD i 0 ^^^ UInt8.ofNat c).toNat) (byt k 0)) 64) ∧ Fr No w w1 by
    rw [upto_zero, ← hb2]
    exact ⟨HB1.out, HF1.out⟩)
  have HW := hid hb2
  rw [hb2]
  clear HB1 HF1 HS1 hb2
  go_loopw [6] (fun i wr => ∃ j : Nat, j ≤ 64 ∧ i = .int .i64 j ∧ Hid (Blk wr b2 47 (bw .u8 (upto j (fun i => (k.getD i 0 ^^^ UInt8.ofNat c).toNat) (byt k 0)) 64) ∧ Fr No w wr)) (fun i _ => 64 - (intOf i).toNat)
  case atStart => exact ⟨0, by omega, rfl, HR⟩
  case round =>
    clear HR
    obtain ⟨j, hj, rfl, HR⟩ := hrel
    by_cases hlt : j < 64
    · have c1 := blk_at HR.out.1 hlt
      rw [upto_get _ _ (Nat.le_refl j)] at c1
      have hx := xor_u8 (k.getD j 0) c HC.out
      obtain ⟨x, hxe⟩ : ∃ x, byt k 0 j = x := ⟨_, rfl⟩
      have hxe' : (k.getD j 0).toNat = x := by rw [← hxe]; unfold byt; simp
      rw [hxe] at c1
      rw [hxe'] at hx
      have HX := hid hx
      clear hx hxe hxe'
      go_wp2_with (first
        | ((with_reducible show wpList _ _ _ ({ dst := _, op := .store 5 _ _, type := _, pos := _, after := _, guard := _ } :: _) _ _); refine wpL_put rfl _ _ _ rfl b2 j ((k.getD j 0 ^^^ UInt8.ofNat c).toNat) rfl (by first | exact congrArg (Value.int .u8) HX.out | rfl) _ _ 64 HR.out.1 hlt infoU8 ?_; intro w5 HB5 HF5 HS5)
        | fail)
      have HR' := hid (show Blk w5 b2 47 (bw .u8 (upto (j + 1) (fun i => (k.getD i 0 ^^^ UInt8.ofNat c).toNat) (byt k 0)) 64) ∧ Fr No w w5 by
        have hn := HW.out
        have h5 := HB5.out
        rw [upto_set (fun i => (k.getD i 0 ^^^ UInt8.ofNat c).toNat)] at h5
        exact ⟨h5, HR.out.2.trans HF5.out fun i e => .inr (by have : i = b2 := e; omega)⟩)
      clear HR HB5 HF5 HS5 c1
      go_wp2_with fail
      go_roundw
      case rel => exact ⟨j + 1, by omega, by go_num, HR'⟩
      case measure => simp [intOf]; omega
    · obtain rfl : j = 64 := by omega
      have hr := HR.out
      rw [upto_all, with_byt _ k HK.out] at hr
      go_wp2_with fail
      go_ret
      have hl : (with_ (UInt8.ofNat c) k).length = 64 := by rw [with_length, HK.out]
      have := Blk.bytes (E := fun b => w.heap.size ≤ b) hr.1 (by have := HW.out; omega) (Nat.le_refl _)
      rw [hl] at this
      exact ⟨_, rfl, this, hr.2⟩
theorem pad_block (K : List UInt8) (h : K.length ≤ 64) : spl (bw .u8 (fun _ => 0) 64) 0 (u8s K) = u8s (K ++ List.replicate (64 - K.length) 0) := by
  unfold spl
  rw [List.take_zero, List.nil_append, Nat.zero_add, u8s_append, u8s_length]
  congr 1
  refine List.ext_getElem? fun i => ?_
  rw [List.getElem?_drop]
  by_cases hi : i < 64 - K.length
  · rw [bw_get _ (by omega), u8s_get _ _ (by simpa using hi)]
    simp
  · rw [List.getElem?_eq_none (by simp; omega), List.getElem?_eq_none (by simp [u8s_length]; omega)]
theorem key64_length (key : List UInt8) : (key64 key).length = 64 := by
  by_cases h : 64 < key.length
  · rw [key64_long h, List.length_append, List.length_replicate, digL_length]
  · rw [key64_short h, List.length_append, List.length_replicate]
    omega
set_option maxHeartbeats 8000000 in
theorem pmac_any (key b : List UInt8) (vk vb : Value) (w : World) {E E' : Nat → Prop} (hk : BytesIn w E vk key) (hb : BytesIn w E' vb b) (hg : Gl w) (hkl : key.length ≤ 140737488355200) (hbl : b.length ≤ 140737488355200) :
    Calls Tryd.prog 10 #[vk, vb] w fun e w' => e = .returned (ba .u8 (mac key b) 32) ∧ Fr No w w' := by
  have HK := hid hk; have HB := hid hb; have HG := hid hg; have HKL := hid hkl; have HBL := hid hbl
  obtain ⟨ak, lk, ck, rfl, hkn, hkc, hks⟩ := hk
  obtain ⟨ab, lb, cb, rfl, -, -, -⟩ := hb
  have HKN := hid hkn
  have HKS := hid ((src_of HK.out).2)
  have hlki : (lk : Int) ≤ 140737488355200 := by omega
  clear hkl hbl hkn hkc hks hg
  go_enter Tryd.func10, Tryd.ntmps10
  by_cases hlong : 64 < lk
  · have hlong2 : (64 : Int) < (lk : Int) := by omega
    go_wp2_with (first
      | ((with_reducible show wpList _ _ _ ({ dst := _, op := .alloc 47, type := _, pos := _, after := _, guard := _ } :: _) _ _); refine wpL_alloc rfl _ rfl _ zero64b (bw .u8 (fun _ => 0) 64) rfl ?_; intro w2 HB2 HF2 HS2)
      | ((with_reducible show wpList _ _ _ ({ dst := _, op := .alloc 24, type := _, pos := _, after := _, guard := _ } :: _) _ _); refine wpL_alloc rfl _ rfl _ zero32b (bw .u8 (fun _ => 0) 32) rfl ?_; intro w1 HB1 HF1 HS1)
      | fail)
    obtain ⟨b4, hb4⟩ : ∃ x, w.heap.size = x := ⟨_, rfl⟩
    obtain ⟨b5, hb5⟩ : ∃ x, w1.heap.size = x := ⟨_, rfl⟩
    have hf2 := HF1.out.trans' HF2.out
    have HR0 := hid (show Blk w2 b4 24 (bw .u8 (fun _ => 0) 32) ∧ Blk w2 b5 47 (bw .u8 (fun _ => 0) 64) ∧ Fr No w w2 from ⟨by rw [← hb4]; exact HB1.out.fr HF2.out id, by rw [← hb5]; exact HB2.out, hf2⟩)
    have HN0 := hid (show w.heap.size = b4 ∧ b4 < b5 ∧ b5 < w2.heap.size by have := HS1.out; have := HS2.out; omega)
    rw [hb4, hb5]
    clear HB1 HF1 HS1 HB2 HF2 HS2 hf2 hb4 hb5
    refine (psum_any key _ _ (HK.out.no HR0.out.2.2) (HG.out.no HR0.out.2.2) HKL.out).mono ?_
    rintro e w3 ⟨rfl, hf3⟩
    have HF3 := hid hf3
    clear hf3
    go_wp2_with (first
      | ((with_reducible show wpList _ _ _ ({ dst := _, op := .alloc 24, type := _, pos := _, after := _, guard := _ } :: _) _ _); refine wpL_alloc rfl _ rfl _ zero32b (bw .u8 (fun _ => 0) 32) rfl ?_; intro w4 HB4 HF4 HS4)
      | ((with_reducible show wpList _ _ _ ({ dst := _, op := .store 24 _ _, type := _, pos := _, after := _, guard := _ } :: _) _ _); refine wpL_whole rfl _ _ _ rfl w3.heap.size (dig key) 32 rfl rfl _ _ HB4.out info32b ?_; intro w5 HB5 HF5 HS5; have HST := hid True.intro)
      | ((with_reducible show wpList _ _ _ ({ dst := _, op := .call { callee := .builtin .copy, args := _, argTypes := _ }, type := _, pos := _, after := _, guard := _ } :: _) _ _); have := HST; refine Hid.out ?_)
      | fail)
    obtain ⟨b6, hb6⟩ : ∃ x, w3.heap.size = x := ⟨_, rfl⟩
    have hm : Fr No w2 w5 := HF3.out.trans' (HF4.out.trans HF5.out fun i e => .inr (by have : i = w3.heap.size := e; omega))
    have HR := hid (show Blk w5 b4 24 (bw .u8 (fun _ => 0) 32) ∧ Blk w5 b5 47 (bw .u8 (fun _ => 0) 64) ∧ Blk w5 b6 24 (bw .u8 (dig key) 32) ∧ Fr No w w5 from
      ⟨HR0.out.1.fr hm id, HR0.out.2.1.fr hm id, by rw [← hb6]; exact HB5.out, HR0.out.2.2.trans' hm⟩)
    have HN := hid (show w.heap.size = b4 ∧ b4 < b5 ∧ b5 < b6 by have := HN0.out; have := HF3.out.size; omega)
    have HKK := hid (key64_long (key := key) (by have := HKN.out; omega))
    have HSR := hid (dig_src HR.out.2.2.1)
    rw [hb6]
    clear HR0 HF3 HB4 HF4 HS4 HB5 HF5 HS5 hm hb6 HN0 HST this
    refine hid ?_
    refine wpL_copyB rfl _ _ _ _ rfl 5 Tryd.underlying22 infoU8 b5 0 64 64 (some ⟨b6, 0, none⟩) 32 32 rfl rfl _ _ HR.out.2.1 (u8s (digL key)) (by rw [u8s_length]; rw [digL_length]; rfl) HSR.out (by rw [u8s_length, bw_length]; rw [digL_length]; decide) (u8s_one _) ?_
    intro w8 HB8 HF8 HS8
    have hb8 := HB8.out
    rw [pad_block _ (by rw [digL_length]; decide), ← HKK.out] at hb8
    have HR8 := hid (show Blk w8 b4 24 (bw .u8 (fun _ => 0) 32) ∧ Blk w8 b5 47 (u8s (key64 key)) ∧ Fr No w w8 from
      ⟨HR.out.1.fr HF8.out (by have := HN.out; omega), hb8, HR.out.2.2.2.trans HF8.out fun k e => .inr (by have := HN.out; have : k = b5 := e; omega)⟩)
    have HK64 := hid (key64_length key)
    clear HR HB8 HF8 HS8 hb8 HSR HKK
    go_wp2_with (first
      | ((with_reducible show wpList _ _ _ ({ dst := _, op := .load 47 _, type := _, pos := _, after := _, guard := _ } :: _) _ _); refine wpL_load rfl _ _ rfl b5 0 rfl (u8s (key64 key)) _ (HR8.out.2.1.range 0 _ (by rw [List.drop_zero, List.take_length])) Tryd.underlying47 rfl (by rw [u8s_length, HK64.out]; exact info64b) ?_)
      | fail)
    refine (combine_any (key64 key) HK64.out 54 (by decide) _).mono ?_
    rintro e w9 ⟨v9, rfl, hv9, hf9⟩
    have HV9 := hid hv9
    obtain ⟨a9, n9, c9, rfl, -, -, -⟩ := hv9
    have HR9 := hid (show Blk w9 b4 24 (bw .u8 (fun _ => 0) 32) ∧ Blk w9 b5 47 (u8s (key64 key)) ∧ Fr No w w9 from
      ⟨HR8.out.1.fr hf9 id, HR8.out.2.1.fr hf9 id, HR8.out.2.2.trans' hf9⟩)
    clear HR8 hf9
    go_wp2_with fail
    refine (after_any (with_ 54 (key64 key)) b _ _ _ HV9.out (HB.out.no HR9.out.2.2) (HG.out.no HR9.out.2.2) (by rw [with_length, HK64.out]; decide) HBL.out).mono ?_
    rintro e w10 ⟨rfl, hf10⟩
    have HR10 := hid (show Blk w10 b4 24 (bw .u8 (fun _ => 0) 32) ∧ Blk w10 b5 47 (u8s (key64 key)) ∧ Fr No w w10 from
      ⟨HR9.out.1.fr hf10 id, HR9.out.2.1.fr hf10 id, HR9.out.2.2.trans' hf10⟩)
    clear HR9 hf10 HV9
    obtain ⟨I, hI⟩ : ∃ I, with_ 54 (key64 key) ++ b = I := ⟨_, rfl⟩
    have HI := hid hI
    rw [hI]
    clear hI
    go_wp2_with (first
      | ((with_reducible show wpList _ _ _ ({ dst := _, op := .alloc 24, type := _, pos := _, after := _, guard := _ } :: _) _ _); refine wpL_alloc rfl _ rfl _ zero32b (bw .u8 (fun _ => 0) 32) rfl ?_; intro w11 HB11 HF11 HS11)
      | ((with_reducible show wpList _ _ _ ({ dst := _, op := .store 24 _ _, type := _, pos := _, after := _, guard := _ } :: _) _ _); refine wpL_whole rfl _ _ _ rfl w10.heap.size (dig I) 32 rfl rfl _ _ HB11.out info32b ?_; intro w12 HB12 HF12 HS12)
      | fail)
    obtain ⟨b7, hb7⟩ : ∃ x, w10.heap.size = x := ⟨_, rfl⟩
    have hm : Fr No w10 w12 := HF11.out.trans HF12.out fun i e => .inr (by have : i = w10.heap.size := e; omega)
    have HR12 := hid (show Blk w12 b4 24 (bw .u8 (fun _ => 0) 32) ∧ Blk w12 b5 47 (u8s (key64 key)) ∧ Blk w12 b7 24 (u8s (digL I)) ∧ Fr No w w12 from
      ⟨HR10.out.1.fr hm id, HR10.out.2.1.fr hm id, by rw [← hb7, digL_cells]; exact HB12.out, HR10.out.2.2.trans' hm⟩)
    rw [hb7]
    clear HR10 HB11 HF11 HS11 HB12 HF12 HS12 hm hb7
    have k0 : w12.rangeAt b5 0 (u8s (key64 key)) := HR12.out.2.1.range 0 _ (by rw [List.drop_zero, List.take_length])
    have hold : Facts.hold [(0, fun w' => w'.rangeAt b5 0 (u8s (key64 key)))] w12.drew := (Facts.cons_hold k0 (Facts.nil_hold _))
    refine wpD_region hold (by kernel_rfl) 5 rfl ?_
    (refine wpD_take 0 _ rfl (by kernel_rfl) (by kernel_rfl) (by kernel_rfl) (fun _ _ _ h => h) List.mem_cons_self (by rfl) (exec_load _ _ rfl b5 0 rfl _ _ rfl rfl (by rw [u8s_length, HK64.out]; exact info64b)) (by assumption) ?_; simp only [Act.put, List.setIfInBounds_toArray, List.set_cons_zero, List.set_cons_succ])
    (refine wpD_plain 2 (v := ?_) rfl (by kernel_rfl) (by kernel_rfl) (by kernel_rfl) (fun _ _ _ h => h) (by rfl) ?_ (by assumption) ?_; rotate_left; (intro _w; go_simp; try with_reducible rfl); simp only [Act.put, List.setIfInBounds_toArray, List.set_cons_zero, List.set_cons_succ])
    refine wpD_only 1 [] rfl (by kernel_rfl) (by kernel_rfl) (by rfl) (fun K1 hK1 => ?_)
    refine wp_call _ [_, _] _ rfl _ [] rfl (fun _ _ => by kernel_rfl) [.agg (u8s (key64 key)).toArray, .int .u8 92] rfl ?_
    refine (combine_any (key64 key) HK64.out 92 (by decide) w12.drew).mono ?_
    rintro e w13 ⟨v13, rfl, hv13, hf13⟩
    refine ⟨_, rfl, hK1 _ _ (Facts.nil_hold _) ?_⟩
    clear hK1 K1
    simp only [Act.put, List.setIfInBounds_toArray, List.set_cons_zero, List.set_cons_succ]
    replace hold : Facts.hold [] w13 := Facts.nil_hold _
    have hf13' : Fr No w w13 := HR12.out.2.2.2.trans' ⟨hf13.os, hf13.tape, hf13.output, hf13.size, hf13.block⟩
    refine wpD_only 3 [] rfl (by kernel_rfl) (by kernel_rfl) (by rfl) (fun K3 hK3 => ?_)
    refine wp_call _ [_, _] _ rfl _ [] rfl (fun _ _ => by kernel_rfl) [v13, .slice (some ⟨b7, 0, none⟩) 32 32] rfl ?_
    have hdig := Blk.bytes (E := Any) (HR12.out.2.2.1.drew.fr hf13 id) trivial (Nat.le_refl _)
    rw [digL_length] at hdig
    refine (after_any (with_ 92 (key64 key)) (digL I) v13 (.slice (some ⟨b7, 0, none⟩) 32 32) w13 hv13 hdig (HG.out.no hf13') (by rw [with_length, HK64.out]; decide) (by rw [digL_length]; decide)).mono ?_
    rintro e w14 ⟨rfl, hf14⟩
    refine ⟨_, rfl, hK3 _ _ (Facts.nil_hold _) ?_⟩
    clear hK3 K3
    simp only [Act.put, List.setIfInBounds_toArray, List.set_cons_zero, List.set_cons_succ]
    replace hold : Facts.hold [] w14 := Facts.nil_hold _
    refine wpD_only 4 [] rfl (by kernel_rfl) (by kernel_rfl) (by rfl) (fun K4 hK4 => ?_)
    have hmac : dig (with_ 92 (key64 key) ++ digL I) = mac key b := by rw [← HI.out]; rfl
    refine wp_row _ _ _ rfl b4 0 (dig (with_ 92 (key64 key) ++ digL I)) 32 rfl rfl _ _ 32 ((HR12.out.1.drew.fr hf13 id).fr hf14 id) (by decide) info32b ?_
    intro w15 HB15 HF15 HS15
    refine hK4 _ _ (Facts.nil_hold _) ?_
    clear hK4 K4
    simp only [Act.put, List.setIfInBounds_toArray, List.set_cons_zero, List.set_cons_succ]
    refine wpD_done (by kernel_rfl) ?_ _
    have hb15 := HB15.out
    rw [over_all, hmac] at hb15
    have HB16 := hid hb15
    have HF16 := hid ((hf13'.trans' hf14).trans HF15.out fun k e => .inr (by have := HN.out; have : k = b4 := e; omega) : Fr No w w15)
    clear hb15 HB15 HF15 HS15 hf13 hf13' hf14 hdig hold hv13 hmac k0
    go_wp2_with fail
    refine ret_cell rfl _ rfl HB16.out rfl rfl (by simpa using info32b) rfl ?_
    exact ⟨rfl, HF16.out⟩
  · have hlong2 : ¬ (64 : Int) < (lk : Int) := by omega
    have hlk64 : (lk : Int) ≤ 64 := by omega
    go_wp2_with (first
      | ((with_reducible show wpList _ _ _ ({ dst := _, op := .alloc 47, type := _, pos := _, after := _, guard := _ } :: _) _ _); refine wpL_alloc rfl _ rfl _ zero64b (bw .u8 (fun _ => 0) 64) rfl ?_; intro w2 HB2 HF2 HS2; have HST := hid True.intro)
      | ((with_reducible show wpList _ _ _ ({ dst := _, op := .alloc 24, type := _, pos := _, after := _, guard := _ } :: _) _ _); refine wpL_alloc rfl _ rfl _ zero32b (bw .u8 (fun _ => 0) 32) rfl ?_; intro w1 HB1 HF1 HS1)
      | ((with_reducible show wpList _ _ _ ({ dst := _, op := .call { callee := .builtin .copy, args := _, argTypes := _ }, type := _, pos := _, after := _, guard := _ } :: _) _ _); have := HST; refine Hid.out ?_)
      | fail)
    obtain ⟨b4, hb4⟩ : ∃ x, w.heap.size = x := ⟨_, rfl⟩
    obtain ⟨b5, hb5⟩ : ∃ x, w1.heap.size = x := ⟨_, rfl⟩
    have hf2 := HF1.out.trans' HF2.out
    have HR := hid (show Blk w2 b4 24 (bw .u8 (fun _ => 0) 32) ∧ Blk w2 b5 47 (bw .u8 (fun _ => 0) 64) ∧ (0 : Nat) ≤ 0 ∧ Fr No w w2 from ⟨by rw [← hb4]; exact HB1.out.fr HF2.out id, by rw [← hb5]; exact HB2.out, Nat.le_refl _, hf2⟩)
    have HN := hid (show w.heap.size = b4 ∧ b4 < b5 by have := HS1.out; have := HS2.out; omega)
    have HKK := hid (key64_short (key := key) (by have := HKN.out; omega))
    have HSR := hid (HKS.out.imp id fun ⟨ad, e1, e2⟩ => (⟨ad, e1, fun j u hj => hf2.cell (e2 j u hj) id⟩ : ∃ ad, ak = some ad ∧ ∀ (j : Nat) (u : Value), (u8s key)[j]? = some u → w2.cell? (ad.add j) = some u))
    rw [hb4, hb5]
    clear HB1 HF1 HS1 HB2 HF2 HS2 hf2 hb4 hb5 HST this
    refine hid ?_
    refine wpL_copyB rfl _ _ _ _ rfl 5 Tryd.underlying22 infoU8 b5 0 64 64 ak lk ck rfl rfl _ _ HR.out.2.1 (u8s key) (by rw [u8s_length]; have := HKN.out; show key.length = min lk 64; omega) (by have := HKN.out; exact HSR.out.imp (fun h => by rw [u8s_length]; omega) id) (by rw [u8s_length, bw_length]; have := HKN.out; omega) (u8s_one _) ?_
    intro w8 HB8 HF8 HS8
    have hb8 := HB8.out
    rw [pad_block _ (by have := HKN.out; omega), ← HKK.out] at hb8
    have HR8 := hid (show Blk w8 b4 24 (bw .u8 (fun _ => 0) 32) ∧ Blk w8 b5 47 (u8s (key64 key)) ∧ Fr No w w8 from
      ⟨HR.out.1.fr HF8.out (by have := HN.out; omega), hb8, HR.out.2.2.2.trans HF8.out fun k e => .inr (by have := HN.out; have : k = b5 := e; omega)⟩)
    have HK64 := hid (key64_length key)
    clear HR HB8 HF8 HS8 hb8 HSR HKK
    go_wp2_with (first
      | ((with_reducible show wpList _ _ _ ({ dst := _, op := .load 47 _, type := _, pos := _, after := _, guard := _ } :: _) _ _); refine wpL_load rfl _ _ rfl b5 0 rfl (u8s (key64 key)) _ (HR8.out.2.1.range 0 _ (by rw [List.drop_zero, List.take_length])) Tryd.underlying47 rfl (by rw [u8s_length, HK64.out]; exact info64b) ?_)
      | fail)
    refine (combine_any (key64 key) HK64.out 54 (by decide) _).mono ?_
    rintro e w9 ⟨v9, rfl, hv9, hf9⟩
    have HV9 := hid hv9
    obtain ⟨a9, n9, c9, rfl, -, -, -⟩ := hv9
    have HR9 := hid (show Blk w9 b4 24 (bw .u8 (fun _ => 0) 32) ∧ Blk w9 b5 47 (u8s (key64 key)) ∧ Fr No w w9 from
      ⟨HR8.out.1.fr hf9 id, HR8.out.2.1.fr hf9 id, HR8.out.2.2.trans' hf9⟩)
    clear HR8 hf9
    go_wp2_with fail
    refine (after_any (with_ 54 (key64 key)) b _ _ _ HV9.out (HB.out.no HR9.out.2.2) (HG.out.no HR9.out.2.2) (by rw [with_length, HK64.out]; decide) HBL.out).mono ?_
    rintro e w10 ⟨rfl, hf10⟩
    have HR10 := hid (show Blk w10 b4 24 (bw .u8 (fun _ => 0) 32) ∧ Blk w10 b5 47 (u8s (key64 key)) ∧ Fr No w w10 from
      ⟨HR9.out.1.fr hf10 id, HR9.out.2.1.fr hf10 id, HR9.out.2.2.trans' hf10⟩)
    clear HR9 hf10 HV9
    obtain ⟨I, hI⟩ : ∃ I, with_ 54 (key64 key) ++ b = I := ⟨_, rfl⟩
    have HI := hid hI
    rw [hI]
    clear hI
    go_wp2_with (first
      | ((with_reducible show wpList _ _ _ ({ dst := _, op := .alloc 24, type := _, pos := _, after := _, guard := _ } :: _) _ _); refine wpL_alloc rfl _ rfl _ zero32b (bw .u8 (fun _ => 0) 32) rfl ?_; intro w11 HB11 HF11 HS11)
      | ((with_reducible show wpList _ _ _ ({ dst := _, op := .store 24 _ _, type := _, pos := _, after := _, guard := _ } :: _) _ _); refine wpL_whole rfl _ _ _ rfl w10.heap.size (dig I) 32 rfl rfl _ _ HB11.out info32b ?_; intro w12 HB12 HF12 HS12)
      | fail)
    obtain ⟨b7, hb7⟩ : ∃ x, w10.heap.size = x := ⟨_, rfl⟩
    have hm : Fr No w10 w12 := HF11.out.trans HF12.out fun i e => .inr (by have : i = w10.heap.size := e; omega)
    have HR12 := hid (show Blk w12 b4 24 (bw .u8 (fun _ => 0) 32) ∧ Blk w12 b5 47 (u8s (key64 key)) ∧ Blk w12 b7 24 (u8s (digL I)) ∧ Fr No w w12 from
      ⟨HR10.out.1.fr hm id, HR10.out.2.1.fr hm id, by rw [← hb7, digL_cells]; exact HB12.out, HR10.out.2.2.trans' hm⟩)
    rw [hb7]
    clear HR10 HB11 HF11 HS11 HB12 HF12 HS12 hm hb7
    have k0 : w12.rangeAt b5 0 (u8s (key64 key)) := HR12.out.2.1.range 0 _ (by rw [List.drop_zero, List.take_length])
    have hold : Facts.hold [(0, fun w' => w'.rangeAt b5 0 (u8s (key64 key)))] w12.drew := (Facts.cons_hold k0 (Facts.nil_hold _))
    refine wpD_region hold (by kernel_rfl) 5 rfl ?_
    (refine wpD_take 0 _ rfl (by kernel_rfl) (by kernel_rfl) (by kernel_rfl) (fun _ _ _ h => h) List.mem_cons_self (by rfl) (exec_load _ _ rfl b5 0 rfl _ _ rfl rfl (by rw [u8s_length, HK64.out]; exact info64b)) (by assumption) ?_; simp only [Act.put, List.setIfInBounds_toArray, List.set_cons_zero, List.set_cons_succ])
    (refine wpD_plain 2 (v := ?_) rfl (by kernel_rfl) (by kernel_rfl) (by kernel_rfl) (fun _ _ _ h => h) (by rfl) ?_ (by assumption) ?_; rotate_left; (intro _w; go_simp; try with_reducible rfl); simp only [Act.put, List.setIfInBounds_toArray, List.set_cons_zero, List.set_cons_succ])
    refine wpD_only 1 [] rfl (by kernel_rfl) (by kernel_rfl) (by rfl) (fun K1 hK1 => ?_)
    refine wp_call _ [_, _] _ rfl _ [] rfl (fun _ _ => by kernel_rfl) [.agg (u8s (key64 key)).toArray, .int .u8 92] rfl ?_
    refine (combine_any (key64 key) HK64.out 92 (by decide) w12.drew).mono ?_
    rintro e w13 ⟨v13, rfl, hv13, hf13⟩
    refine ⟨_, rfl, hK1 _ _ (Facts.nil_hold _) ?_⟩
    clear hK1 K1
    simp only [Act.put, List.setIfInBounds_toArray, List.set_cons_zero, List.set_cons_succ]
    replace hold : Facts.hold [] w13 := Facts.nil_hold _
    have hf13' : Fr No w w13 := HR12.out.2.2.2.trans' ⟨hf13.os, hf13.tape, hf13.output, hf13.size, hf13.block⟩
    refine wpD_only 3 [] rfl (by kernel_rfl) (by kernel_rfl) (by rfl) (fun K3 hK3 => ?_)
    refine wp_call _ [_, _] _ rfl _ [] rfl (fun _ _ => by kernel_rfl) [v13, .slice (some ⟨b7, 0, none⟩) 32 32] rfl ?_
    have hdig := Blk.bytes (E := Any) (HR12.out.2.2.1.drew.fr hf13 id) trivial (Nat.le_refl _)
    rw [digL_length] at hdig
    refine (after_any (with_ 92 (key64 key)) (digL I) v13 (.slice (some ⟨b7, 0, none⟩) 32 32) w13 hv13 hdig (HG.out.no hf13') (by rw [with_length, HK64.out]; decide) (by rw [digL_length]; decide)).mono ?_
    rintro e w14 ⟨rfl, hf14⟩
    refine ⟨_, rfl, hK3 _ _ (Facts.nil_hold _) ?_⟩
    clear hK3 K3
    simp only [Act.put, List.setIfInBounds_toArray, List.set_cons_zero, List.set_cons_succ]
    replace hold : Facts.hold [] w14 := Facts.nil_hold _
    refine wpD_only 4 [] rfl (by kernel_rfl) (by kernel_rfl) (by rfl) (fun K4 hK4 => ?_)
    have hmac : dig (with_ 92 (key64 key) ++ digL I) = mac key b := by rw [← HI.out]; rfl
    refine wp_row _ _ _ rfl b4 0 (dig (with_ 92 (key64 key) ++ digL I)) 32 rfl rfl _ _ 32 ((HR12.out.1.drew.fr hf13 id).fr hf14 id) (by decide) info32b ?_
    intro w15 HB15 HF15 HS15
    refine hK4 _ _ (Facts.nil_hold _) ?_
    clear hK4 K4
    simp only [Act.put, List.setIfInBounds_toArray, List.set_cons_zero, List.set_cons_succ]
    refine wpD_done (by kernel_rfl) ?_ _
    have hb15 := HB15.out
    rw [over_all, hmac] at hb15
    have HB16 := hid hb15
    have HF16 := hid ((hf13'.trans' hf14).trans HF15.out fun k e => .inr (by have := HN.out; have : k = b4 := e; omega) : Fr No w w15)
    clear hb15 HB15 HF15 HS15 hf13 hf13' hf14 hdig hold hv13 hmac k0
    go_wp2_with fail
    refine ret_cell rfl _ rfl HB16.out rfl rfl (by simpa using info32b) rfl ?_
    exact ⟨rfl, HF16.out⟩
end Go.Proofs.YtejbanlhgnlliaaDoor.SH
