/-
  The laws of stage 6 that speak of the way back: AesBack, AesApart.
-/
import Derived.Test.YtgbcddhgeepjgaaAesW
namespace Go.Proofs.Ytgbcddhgeepjgaa.AE
set_option maxRecDepth 100000
open Go.RowKit K

theorem aesBack_walk (W : World) (k f : Nat → Nat) (hk : By k) (hf : By f) : Calls Try.prog 9 #[bk k 16, bk f 16] W fun e w' => e = .returned (.bool true) ∧ Fr No W w' := by
  have H_k := hid hk; clear hk
  have H_f := hid hf; clear hf
  go_enter Try.func9, Try.ntmps9
  go_wp2_with (first
    | ((with_reducible show wpList _ _ _ ({ dst := _, op := .box 27 _, type := _, pos := _, after := _, guard := _ } :: _) _ _); have := HB1; refine wpL_box rfl _ _ rfl (bk f 16) rfl (b8 f 16) rfl ?_; intro w2 HB2 HF2 HS2)
    | ((with_reducible show wpList _ _ _ ({ dst := _, op := .box 27 _, type := _, pos := _, after := _, guard := _ } :: _) _ _); refine wpL_box rfl _ _ rfl (bk k 16) rfl (b8 k 16) rfl ?_; intro w1 HB1 HF1 HS1))
  refine (awake_any _).mono ?_
  rintro e v0 ⟨rfl, hf0⟩
  obtain ⟨b1, hb1⟩ : ∃ b, W.heap.size = b := ⟨_, rfl⟩
  have hB1 := (HB1.out.fr HF2.out id).fr hf0 id
  have hs1 := HS1.out
  obtain ⟨b2, hb2⟩ : ∃ b, w1.heap.size = b := ⟨_, rfl⟩
  have hB2 := HB2.out.fr hf0 id
  have hs2 := HS2.out
  have hg := (HF1.out.trans' HF2.out).trans' hf0
  rw [hb1] at hB1
  rw [hb2] at hB2
  rw [hb1, hb2]
  have HR := hid (show Blk v0 b1 27 (b8 (k) 16) ∧ Blk v0 b2 27 (b8 (f) 16) ∧ Fr No W v0 from ⟨hB1, hB2, hg⟩)
  clear HB1 HF1 HS1 hb1 hs1 hB1 HB2 HF2 HS2 hb2 hs2 hB2 hf0 hg this
  go_wp2_with (first
    | ((with_reducible show wpList _ _ _ ({ dst := _, op := .load 27 _, type := _, pos := _, after := _, guard := _ } :: _) _ _); have := HQ; refine wpL_all rfl _ _ rfl b2 rfl _ (f) 16 _ HR.out.2.1 rfl rfl info16 ?_)
    | ((with_reducible show wpList _ _ _ ({ dst := _, op := .load 27 _, type := _, pos := _, after := _, guard := _ } :: _) _ _); refine wpL_all rfl _ _ rfl b1 rfl _ (k) 16 _ HR.out.1 rfl rfl info16 ?_; have HQ := hid trivial))
  refine (enc_any (k) (f) _ H_k.out H_f.out).mono ?_
  rintro e x0 ⟨rfl, hf0⟩
  have HR4 := hid (show Blk x0 b1 27 (b8 (k) 16) ∧ Blk x0 b2 27 (b8 (f) 16) ∧ Fr No W x0 from ⟨HR.out.1.fr hf0 id, HR.out.2.1.fr hf0 id, HR.out.2.2.trans' hf0⟩)
  clear HR hf0 this HQ
  go_wp2_with (first
    | ((with_reducible show wpList _ _ _ ({ dst := _, op := .load 27 _, type := _, pos := _, after := _, guard := _ } :: _) _ _); have := HB6; refine Hid.out ?_)
    | ((with_reducible show wpList _ _ _ ({ dst := _, op := .alloc 27, type := _, pos := _, after := _, guard := _ } :: _) _ _); refine wpL_alloc rfl _ rfl _ zero16 (b8 (fun _ => 0) 16) rfl ?_; intro y0 HB5 HF5 HS5)
    | ((with_reducible show wpList _ _ _ ({ dst := _, op := .store 27 _ _, type := _, pos := _, after := _, guard := _ } :: _) _ _); refine wpL_whole rfl _ _ _ rfl x0.heap.size (enc k f) 16 rfl rfl _ _ HB5.out info16 ?_; intro v1 HB6 HF6 HS6))
  obtain ⟨b3, hb⟩ : ∃ b, x0.heap.size = b := ⟨_, rfl⟩
  have hs := HR4.out.2.2.size
  have l0 := HR4.out.1.lt
  have hB0 := (HR4.out.1.fr HF5.out id).fr HF6.out (fun e => by have : b1 = x0.heap.size := e; omega)
  have l1 := HR4.out.2.1.lt
  have hB1 := (HR4.out.2.1.fr HF5.out id).fr HF6.out (fun e => by have : b2 = x0.heap.size := e; omega)
  have hBn := HB6.out
  have hg := (HR4.out.2.2.trans' HF5.out).trans HF6.out fun i e => .inr (by have : i = x0.heap.size := e; omega)
  rw [hb] at hBn
  rw [hb]
  have HR := hid (show Blk v1 b1 27 (b8 (k) 16) ∧ Blk v1 b2 27 (b8 (f) 16) ∧ Blk v1 b3 27 (b8 (enc k f) 16) ∧ Fr No W v1 from ⟨hB0, hB1, hBn, hg⟩)
  first | refine hid ?_ | skip
  clear HR4 HB5 HF5 HS5 HB6 HF6 HS6 hb hs hBn hg l0 hB0 l1 hB1
  go_wp2_with (first
    | ((with_reducible show wpList _ _ _ ({ dst := _, op := .load 27 _, type := _, pos := _, after := _, guard := _ } :: _) _ _); have := HQ; refine wpL_all rfl _ _ rfl b3 rfl _ (enc k f) 16 _ HR.out.2.2.1 rfl rfl info16 ?_)
    | ((with_reducible show wpList _ _ _ ({ dst := _, op := .load 27 _, type := _, pos := _, after := _, guard := _ } :: _) _ _); refine wpL_all rfl _ _ rfl b1 rfl _ (k) 16 _ HR.out.1 rfl rfl info16 ?_; have HQ := hid trivial))
  refine (dec_any (k) (enc k f) _ H_k.out (enc_by H_k.out H_f.out)).mono ?_
  rintro e x1 ⟨rfl, hf1⟩
  have HR4 := hid (show Blk x1 b1 27 (b8 (k) 16) ∧ Blk x1 b2 27 (b8 (f) 16) ∧ Blk x1 b3 27 (b8 (enc k f) 16) ∧ Fr No W x1 from ⟨HR.out.1.fr hf1 id, HR.out.2.1.fr hf1 id, HR.out.2.2.1.fr hf1 id, HR.out.2.2.2.trans' hf1⟩)
  clear HR hf1 this HQ
  go_wp2_with (first
    | ((with_reducible show wpList _ _ _ ({ dst := _, op := .load 27 _, type := _, pos := _, after := _, guard := _ } :: _) _ _); have := HB6; refine Hid.out ?_)
    | ((with_reducible show wpList _ _ _ ({ dst := _, op := .alloc 27, type := _, pos := _, after := _, guard := _ } :: _) _ _); refine wpL_alloc rfl _ rfl _ zero16 (b8 (fun _ => 0) 16) rfl ?_; intro y1 HB5 HF5 HS5)
    | ((with_reducible show wpList _ _ _ ({ dst := _, op := .store 27 _ _, type := _, pos := _, after := _, guard := _ } :: _) _ _); refine wpL_whole rfl _ _ _ rfl x1.heap.size (dec k (enc k f)) 16 rfl rfl _ _ HB5.out info16 ?_; intro v2 HB6 HF6 HS6))
  obtain ⟨b4, hb⟩ : ∃ b, x1.heap.size = b := ⟨_, rfl⟩
  have hs := HR4.out.2.2.2.size
  have l0 := HR4.out.1.lt
  have hB0 := (HR4.out.1.fr HF5.out id).fr HF6.out (fun e => by have : b1 = x1.heap.size := e; omega)
  have l1 := HR4.out.2.1.lt
  have hB1 := (HR4.out.2.1.fr HF5.out id).fr HF6.out (fun e => by have : b2 = x1.heap.size := e; omega)
  have l2 := HR4.out.2.2.1.lt
  have hB2 := (HR4.out.2.2.1.fr HF5.out id).fr HF6.out (fun e => by have : b3 = x1.heap.size := e; omega)
  have hBn := HB6.out
  have hg := (HR4.out.2.2.2.trans' HF5.out).trans HF6.out fun i e => .inr (by have : i = x1.heap.size := e; omega)
  rw [hb] at hBn
  rw [hb]
  have HR := hid (show Blk v2 b1 27 (b8 (k) 16) ∧ Blk v2 b2 27 (b8 (f) 16) ∧ Blk v2 b3 27 (b8 (enc k f) 16) ∧ Blk v2 b4 27 (b8 (dec k (enc k f)) 16) ∧ Fr No W v2 from ⟨hB0, hB1, hB2, hBn, hg⟩)
  first | refine hid ?_ | skip
  clear HR4 HB5 HF5 HS5 HB6 HF6 HS6 hb hs hBn hg l0 hB0 l1 hB1 l2 hB2
  go_wp2_with (first
    | ((with_reducible show wpList _ _ _ ({ dst := _, op := .load 27 _, type := _, pos := _, after := _, guard := _ } :: _) _ _); have := HQ; refine wpL_all rfl _ _ rfl b2 rfl _ (f) 16 _ HR.out.2.1 rfl rfl info16 ?_)
    | ((with_reducible show wpList _ _ _ ({ dst := _, op := .load 27 _, type := _, pos := _, after := _, guard := _ } :: _) _ _); refine wpL_all rfl _ _ rfl b1 rfl _ (k) 16 _ HR.out.1 rfl rfl info16 ?_; have HQ := hid trivial))
  refine (dec_any (k) (f) _ H_k.out H_f.out).mono ?_
  rintro e x2 ⟨rfl, hf2⟩
  have HR4 := hid (show Blk x2 b1 27 (b8 (k) 16) ∧ Blk x2 b2 27 (b8 (f) 16) ∧ Blk x2 b3 27 (b8 (enc k f) 16) ∧ Blk x2 b4 27 (b8 (dec k (enc k f)) 16) ∧ Fr No W x2 from ⟨HR.out.1.fr hf2 id, HR.out.2.1.fr hf2 id, HR.out.2.2.1.fr hf2 id, HR.out.2.2.2.1.fr hf2 id, HR.out.2.2.2.2.trans' hf2⟩)
  clear HR hf2 this HQ
  go_wp2_with (first
    | ((with_reducible show wpList _ _ _ ({ dst := _, op := .load 27 _, type := _, pos := _, after := _, guard := _ } :: _) _ _); have := HB6; refine Hid.out ?_)
    | ((with_reducible show wpList _ _ _ ({ dst := _, op := .alloc 27, type := _, pos := _, after := _, guard := _ } :: _) _ _); refine wpL_alloc rfl _ rfl _ zero16 (b8 (fun _ => 0) 16) rfl ?_; intro y2 HB5 HF5 HS5)
    | ((with_reducible show wpList _ _ _ ({ dst := _, op := .store 27 _ _, type := _, pos := _, after := _, guard := _ } :: _) _ _); refine wpL_whole rfl _ _ _ rfl x2.heap.size (dec k f) 16 rfl rfl _ _ HB5.out info16 ?_; intro v3 HB6 HF6 HS6))
  obtain ⟨b5, hb⟩ : ∃ b, x2.heap.size = b := ⟨_, rfl⟩
  have hs := HR4.out.2.2.2.2.size
  have l0 := HR4.out.1.lt
  have hB0 := (HR4.out.1.fr HF5.out id).fr HF6.out (fun e => by have : b1 = x2.heap.size := e; omega)
  have l1 := HR4.out.2.1.lt
  have hB1 := (HR4.out.2.1.fr HF5.out id).fr HF6.out (fun e => by have : b2 = x2.heap.size := e; omega)
  have l2 := HR4.out.2.2.1.lt
  have hB2 := (HR4.out.2.2.1.fr HF5.out id).fr HF6.out (fun e => by have : b3 = x2.heap.size := e; omega)
  have l3 := HR4.out.2.2.2.1.lt
  have hB3 := (HR4.out.2.2.2.1.fr HF5.out id).fr HF6.out (fun e => by have : b4 = x2.heap.size := e; omega)
  have hBn := HB6.out
  have hg := (HR4.out.2.2.2.2.trans' HF5.out).trans HF6.out fun i e => .inr (by have : i = x2.heap.size := e; omega)
  rw [hb] at hBn
  rw [hb]
  have HR := hid (show Blk v3 b1 27 (b8 (k) 16) ∧ Blk v3 b2 27 (b8 (f) 16) ∧ Blk v3 b3 27 (b8 (enc k f) 16) ∧ Blk v3 b4 27 (b8 (dec k (enc k f)) 16) ∧ Blk v3 b5 27 (b8 (dec k f) 16) ∧ Fr No W v3 from ⟨hB0, hB1, hB2, hB3, hBn, hg⟩)
  first | refine hid ?_ | skip
  clear HR4 HB5 HF5 HS5 HB6 HF6 HS6 hb hs hBn hg l0 hB0 l1 hB1 l2 hB2 l3 hB3
  go_wp2_with (first
    | ((with_reducible show wpList _ _ _ ({ dst := _, op := .load 27 _, type := _, pos := _, after := _, guard := _ } :: _) _ _); have := HQ; refine wpL_all rfl _ _ rfl b5 rfl _ (dec k f) 16 _ HR.out.2.2.2.2.1 rfl rfl info16 ?_)
    | ((with_reducible show wpList _ _ _ ({ dst := _, op := .load 27 _, type := _, pos := _, after := _, guard := _ } :: _) _ _); refine wpL_all rfl _ _ rfl b1 rfl _ (k) 16 _ HR.out.1 rfl rfl info16 ?_; have HQ := hid trivial))
  refine (enc_any (k) (dec k f) _ H_k.out (dec_by H_k.out H_f.out)).mono ?_
  rintro e x3 ⟨rfl, hf3⟩
  have HR4 := hid (show Blk x3 b1 27 (b8 (k) 16) ∧ Blk x3 b2 27 (b8 (f) 16) ∧ Blk x3 b3 27 (b8 (enc k f) 16) ∧ Blk x3 b4 27 (b8 (dec k (enc k f)) 16) ∧ Blk x3 b5 27 (b8 (dec k f) 16) ∧ Fr No W x3 from ⟨HR.out.1.fr hf3 id, HR.out.2.1.fr hf3 id, HR.out.2.2.1.fr hf3 id, HR.out.2.2.2.1.fr hf3 id, HR.out.2.2.2.2.1.fr hf3 id, HR.out.2.2.2.2.2.trans' hf3⟩)
  clear HR hf3 this HQ
  go_wp2_with (first
    | ((with_reducible show wpList _ _ _ ({ dst := _, op := .load 27 _, type := _, pos := _, after := _, guard := _ } :: _) _ _); have := HB6; refine Hid.out ?_)
    | ((with_reducible show wpList _ _ _ ({ dst := _, op := .alloc 27, type := _, pos := _, after := _, guard := _ } :: _) _ _); refine wpL_alloc rfl _ rfl _ zero16 (b8 (fun _ => 0) 16) rfl ?_; intro y3 HB5 HF5 HS5)
    | ((with_reducible show wpList _ _ _ ({ dst := _, op := .store 27 _ _, type := _, pos := _, after := _, guard := _ } :: _) _ _); refine wpL_whole rfl _ _ _ rfl x3.heap.size (enc k (dec k f)) 16 rfl rfl _ _ HB5.out info16 ?_; intro v4 HB6 HF6 HS6))
  obtain ⟨b6, hb⟩ : ∃ b, x3.heap.size = b := ⟨_, rfl⟩
  have hs := HR4.out.2.2.2.2.2.size
  have l0 := HR4.out.1.lt
  have hB0 := (HR4.out.1.fr HF5.out id).fr HF6.out (fun e => by have : b1 = x3.heap.size := e; omega)
  have l1 := HR4.out.2.1.lt
  have hB1 := (HR4.out.2.1.fr HF5.out id).fr HF6.out (fun e => by have : b2 = x3.heap.size := e; omega)
  have l2 := HR4.out.2.2.1.lt
  have hB2 := (HR4.out.2.2.1.fr HF5.out id).fr HF6.out (fun e => by have : b3 = x3.heap.size := e; omega)
  have l3 := HR4.out.2.2.2.1.lt
  have hB3 := (HR4.out.2.2.2.1.fr HF5.out id).fr HF6.out (fun e => by have : b4 = x3.heap.size := e; omega)
  have l4 := HR4.out.2.2.2.2.1.lt
  have hB4 := (HR4.out.2.2.2.2.1.fr HF5.out id).fr HF6.out (fun e => by have : b5 = x3.heap.size := e; omega)
  have hBn := HB6.out
  have hg := (HR4.out.2.2.2.2.2.trans' HF5.out).trans HF6.out fun i e => .inr (by have : i = x3.heap.size := e; omega)
  rw [hb] at hBn
  rw [hb]
  have HR := hid (show Blk v4 b1 27 (b8 (k) 16) ∧ Blk v4 b2 27 (b8 (f) 16) ∧ Blk v4 b3 27 (b8 (enc k f) 16) ∧ Blk v4 b4 27 (b8 (dec k (enc k f)) 16) ∧ Blk v4 b5 27 (b8 (dec k f) 16) ∧ Blk v4 b6 27 (b8 (enc k (dec k f)) 16) ∧ Fr No W v4 from ⟨hB0, hB1, hB2, hB3, hB4, hBn, hg⟩)
  first | refine hid ?_ | skip
  clear HR4 HB5 HF5 HS5 HB6 HF6 HS6 hb hs hBn hg l0 hB0 l1 hB1 l2 hB2 l3 hB3 l4 hB4
  go_wp2_with (first
    | (with_reducible show wpList _ _ _ ({ dst := _, op := .binOp .eql 27 _ _ _, type := _, pos := _, after := _, guard := _ } :: _) _ _; refine Hid.out ?_)
    | ((with_reducible show wpList _ _ _ ({ dst := _, op := .load 27 _, type := _, pos := _, after := _, guard := _ } :: _) _ _); have := G1; refine wpL_val (by rfl) _ (exec_row _ _ rfl b2 rfl _ (f) 16 _ HR.out.2.1 rfl rfl info16) ?_)
    | ((with_reducible show wpList _ _ _ ({ dst := _, op := .load 27 _, type := _, pos := _, after := _, guard := _ } :: _) _ _); refine wpL_val (by rfl) _ (exec_row _ _ rfl b4 rfl _ (dec k (enc k f)) 16 _ HR.out.2.2.2.1 rfl rfl info16) ?_; have G1 := hid trivial))
  refine hid ?_
  refine wpL_val (by rfl) _ (exec_eq16 _ _ _ rfl (dec k (enc k f)) f true (eqB_E.2 (dec_enc H_k.out H_f.out)) rfl rfl _) ?_
  clear this G1
  go_wp2_with (first
    | (with_reducible show wpList _ _ _ ({ dst := _, op := .binOp .eql 27 _ _ _, type := _, pos := _, after := _, guard := _ } :: _) _ _; refine Hid.out ?_)
    | ((with_reducible show wpList _ _ _ ({ dst := _, op := .load 27 _, type := _, pos := _, after := _, guard := _ } :: _) _ _); have := G1; refine wpL_val (by rfl) _ (exec_row _ _ rfl b2 rfl _ (f) 16 _ HR.out.2.1 rfl rfl info16) ?_)
    | ((with_reducible show wpList _ _ _ ({ dst := _, op := .load 27 _, type := _, pos := _, after := _, guard := _ } :: _) _ _); refine wpL_val (by rfl) _ (exec_row _ _ rfl b6 rfl _ (enc k (dec k f)) 16 _ HR.out.2.2.2.2.2.1 rfl rfl info16) ?_; have G1 := hid trivial))
  refine hid ?_
  refine wpL_val (by rfl) _ (exec_eq16 _ _ _ rfl (enc k (dec k f)) f true (eqB_E.2 (enc_dec H_k.out H_f.out)) rfl rfl _) ?_
  clear this G1
  go_wp2_with fail
  go_ret
  exact ⟨rfl, HR.out.2.2.2.2.2.2⟩

theorem aesApart_walk (W : World) (k f g : Nat → Nat) (hk : By k) (hf : By f) (hg : By g) : Calls Try.prog 10 #[bk k 16, bk f 16, bk g 16] W fun e w' => e = .returned (.bool true) ∧ Fr No W w' := by
  have H_k := hid hk; clear hk
  have H_f := hid hf; clear hf
  have H_g := hid hg; clear hg
  go_enter Try.func10, Try.ntmps10
  go_wp2_with (first
    | ((with_reducible show wpList _ _ _ ({ dst := _, op := .box 27 _, type := _, pos := _, after := _, guard := _ } :: _) _ _); have := HB2; refine wpL_box rfl _ _ rfl (bk g 16) rfl (b8 g 16) rfl ?_; intro w3 HB3 HF3 HS3)
    | ((with_reducible show wpList _ _ _ ({ dst := _, op := .box 27 _, type := _, pos := _, after := _, guard := _ } :: _) _ _); have := HB1; refine wpL_box rfl _ _ rfl (bk f 16) rfl (b8 f 16) rfl ?_; intro w2 HB2 HF2 HS2)
    | ((with_reducible show wpList _ _ _ ({ dst := _, op := .box 27 _, type := _, pos := _, after := _, guard := _ } :: _) _ _); refine wpL_box rfl _ _ rfl (bk k 16) rfl (b8 k 16) rfl ?_; intro w1 HB1 HF1 HS1))
  refine (awake_any _).mono ?_
  rintro e v0 ⟨rfl, hf0⟩
  obtain ⟨b1, hb1⟩ : ∃ b, W.heap.size = b := ⟨_, rfl⟩
  have hB1 := ((HB1.out.fr HF2.out id).fr HF3.out id).fr hf0 id
  have hs1 := HS1.out
  obtain ⟨b2, hb2⟩ : ∃ b, w1.heap.size = b := ⟨_, rfl⟩
  have hB2 := (HB2.out.fr HF3.out id).fr hf0 id
  have hs2 := HS2.out
  obtain ⟨b3, hb3⟩ : ∃ b, w2.heap.size = b := ⟨_, rfl⟩
  have hB3 := HB3.out.fr hf0 id
  have hs3 := HS3.out
  have hg := ((HF1.out.trans' HF2.out).trans' HF3.out).trans' hf0
  rw [hb1] at hB1
  rw [hb2] at hB2
  rw [hb3] at hB3
  rw [hb1, hb2, hb3]
  have HR := hid (show Blk v0 b1 27 (b8 (k) 16) ∧ Blk v0 b2 27 (b8 (f) 16) ∧ Blk v0 b3 27 (b8 (g) 16) ∧ Fr No W v0 from ⟨hB1, hB2, hB3, hg⟩)
  clear HB1 HF1 HS1 hb1 hs1 hB1 HB2 HF2 HS2 hb2 hs2 hB2 HB3 HF3 HS3 hb3 hs3 hB3 hf0 hg this
  go_wp2_with (first
    | ((with_reducible show wpList _ _ _ ({ dst := _, op := .load 27 _, type := _, pos := _, after := _, guard := _ } :: _) _ _); have := HQ; refine wpL_all rfl _ _ rfl b2 rfl _ (f) 16 _ HR.out.2.1 rfl rfl info16 ?_)
    | ((with_reducible show wpList _ _ _ ({ dst := _, op := .load 27 _, type := _, pos := _, after := _, guard := _ } :: _) _ _); refine wpL_all rfl _ _ rfl b1 rfl _ (k) 16 _ HR.out.1 rfl rfl info16 ?_; have HQ := hid trivial))
  refine (enc_any (k) (f) _ H_k.out H_f.out).mono ?_
  rintro e x0 ⟨rfl, hf0⟩
  have HR4 := hid (show Blk x0 b1 27 (b8 (k) 16) ∧ Blk x0 b2 27 (b8 (f) 16) ∧ Blk x0 b3 27 (b8 (g) 16) ∧ Fr No W x0 from ⟨HR.out.1.fr hf0 id, HR.out.2.1.fr hf0 id, HR.out.2.2.1.fr hf0 id, HR.out.2.2.2.trans' hf0⟩)
  clear HR hf0 this HQ
  go_wp2_with (first
    | ((with_reducible show wpList _ _ _ ({ dst := _, op := .load 27 _, type := _, pos := _, after := _, guard := _ } :: _) _ _); have := HB6; refine Hid.out ?_)
    | ((with_reducible show wpList _ _ _ ({ dst := _, op := .alloc 27, type := _, pos := _, after := _, guard := _ } :: _) _ _); refine wpL_alloc rfl _ rfl _ zero16 (b8 (fun _ => 0) 16) rfl ?_; intro y0 HB5 HF5 HS5)
    | ((with_reducible show wpList _ _ _ ({ dst := _, op := .store 27 _ _, type := _, pos := _, after := _, guard := _ } :: _) _ _); refine wpL_whole rfl _ _ _ rfl x0.heap.size (enc k f) 16 rfl rfl _ _ HB5.out info16 ?_; intro v1 HB6 HF6 HS6))
  obtain ⟨b4, hb⟩ : ∃ b, x0.heap.size = b := ⟨_, rfl⟩
  have hs := HR4.out.2.2.2.size
  have l0 := HR4.out.1.lt
  have hB0 := (HR4.out.1.fr HF5.out id).fr HF6.out (fun e => by have : b1 = x0.heap.size := e; omega)
  have l1 := HR4.out.2.1.lt
  have hB1 := (HR4.out.2.1.fr HF5.out id).fr HF6.out (fun e => by have : b2 = x0.heap.size := e; omega)
  have l2 := HR4.out.2.2.1.lt
  have hB2 := (HR4.out.2.2.1.fr HF5.out id).fr HF6.out (fun e => by have : b3 = x0.heap.size := e; omega)
  have hBn := HB6.out
  have hg := (HR4.out.2.2.2.trans' HF5.out).trans HF6.out fun i e => .inr (by have : i = x0.heap.size := e; omega)
  rw [hb] at hBn
  rw [hb]
  have HR := hid (show Blk v1 b1 27 (b8 (k) 16) ∧ Blk v1 b2 27 (b8 (f) 16) ∧ Blk v1 b3 27 (b8 (g) 16) ∧ Blk v1 b4 27 (b8 (enc k f) 16) ∧ Fr No W v1 from ⟨hB0, hB1, hB2, hBn, hg⟩)
  first | refine hid ?_ | skip
  clear HR4 HB5 HF5 HS5 HB6 HF6 HS6 hb hs hBn hg l0 hB0 l1 hB1 l2 hB2
  go_wp2_with (first
    | ((with_reducible show wpList _ _ _ ({ dst := _, op := .load 27 _, type := _, pos := _, after := _, guard := _ } :: _) _ _); have := HQ; refine wpL_all rfl _ _ rfl b3 rfl _ (g) 16 _ HR.out.2.2.1 rfl rfl info16 ?_)
    | ((with_reducible show wpList _ _ _ ({ dst := _, op := .load 27 _, type := _, pos := _, after := _, guard := _ } :: _) _ _); refine wpL_all rfl _ _ rfl b1 rfl _ (k) 16 _ HR.out.1 rfl rfl info16 ?_; have HQ := hid trivial))
  refine (enc_any (k) (g) _ H_k.out H_g.out).mono ?_
  rintro e x1 ⟨rfl, hf1⟩
  have HR4 := hid (show Blk x1 b1 27 (b8 (k) 16) ∧ Blk x1 b2 27 (b8 (f) 16) ∧ Blk x1 b3 27 (b8 (g) 16) ∧ Blk x1 b4 27 (b8 (enc k f) 16) ∧ Fr No W x1 from ⟨HR.out.1.fr hf1 id, HR.out.2.1.fr hf1 id, HR.out.2.2.1.fr hf1 id, HR.out.2.2.2.1.fr hf1 id, HR.out.2.2.2.2.trans' hf1⟩)
  clear HR hf1 this HQ
  go_wp2_with (first
    | ((with_reducible show wpList _ _ _ ({ dst := _, op := .load 27 _, type := _, pos := _, after := _, guard := _ } :: _) _ _); have := HB6; refine Hid.out ?_)
    | ((with_reducible show wpList _ _ _ ({ dst := _, op := .alloc 27, type := _, pos := _, after := _, guard := _ } :: _) _ _); refine wpL_alloc rfl _ rfl _ zero16 (b8 (fun _ => 0) 16) rfl ?_; intro y1 HB5 HF5 HS5)
    | ((with_reducible show wpList _ _ _ ({ dst := _, op := .store 27 _ _, type := _, pos := _, after := _, guard := _ } :: _) _ _); refine wpL_whole rfl _ _ _ rfl x1.heap.size (enc k g) 16 rfl rfl _ _ HB5.out info16 ?_; intro v2 HB6 HF6 HS6))
  obtain ⟨b5, hb⟩ : ∃ b, x1.heap.size = b := ⟨_, rfl⟩
  have hs := HR4.out.2.2.2.2.size
  have l0 := HR4.out.1.lt
  have hB0 := (HR4.out.1.fr HF5.out id).fr HF6.out (fun e => by have : b1 = x1.heap.size := e; omega)
  have l1 := HR4.out.2.1.lt
  have hB1 := (HR4.out.2.1.fr HF5.out id).fr HF6.out (fun e => by have : b2 = x1.heap.size := e; omega)
  have l2 := HR4.out.2.2.1.lt
  have hB2 := (HR4.out.2.2.1.fr HF5.out id).fr HF6.out (fun e => by have : b3 = x1.heap.size := e; omega)
  have l3 := HR4.out.2.2.2.1.lt
  have hB3 := (HR4.out.2.2.2.1.fr HF5.out id).fr HF6.out (fun e => by have : b4 = x1.heap.size := e; omega)
  have hBn := HB6.out
  have hg := (HR4.out.2.2.2.2.trans' HF5.out).trans HF6.out fun i e => .inr (by have : i = x1.heap.size := e; omega)
  rw [hb] at hBn
  rw [hb]
  have HR := hid (show Blk v2 b1 27 (b8 (k) 16) ∧ Blk v2 b2 27 (b8 (f) 16) ∧ Blk v2 b3 27 (b8 (g) 16) ∧ Blk v2 b4 27 (b8 (enc k f) 16) ∧ Blk v2 b5 27 (b8 (enc k g) 16) ∧ Fr No W v2 from ⟨hB0, hB1, hB2, hB3, hBn, hg⟩)
  first | refine hid ?_ | skip
  clear HR4 HB5 HF5 HS5 HB6 HF6 HS6 hb hs hBn hg l0 hB0 l1 hB1 l2 hB2 l3 hB3
  have hq : eqB (enc k f) (enc k g) 16 = eqB f g 16 := by
    rw [Bool.eq_iff_iff, eqB_E, eqB_E]
    exact enc_inj H_k.out H_f.out H_g.out
  have HQ := hid hq
  clear hq
  have hold : Facts.hold [(2, fun w' => w'.rangeAt b4 0 (b8 (enc k f) 16)), (3, fun w' => w'.rangeAt b5 0 (b8 (enc k g) 16)), (5, fun w' => w'.rangeAt b2 0 (b8 (f) 16)), (6, fun w' => w'.rangeAt b3 0 (b8 (g) 16))] v2.drew := (Facts.cons_hold (blk_whole HR.out.2.2.2.1) (Facts.cons_hold (blk_whole HR.out.2.2.2.2.1) (Facts.cons_hold (blk_whole HR.out.2.1) (Facts.cons_hold (blk_whole HR.out.2.2.1) (Facts.nil_hold _)))))
  refine wpD_region hold (by kernel_rfl) 11 rfl ?_
  (refine wpD_plain 0 (v := ?_) rfl (by kernel_rfl) (by kernel_rfl) (by kernel_rfl) (fun _ _ _ h => h) (by rfl) ?_ (by assumption) ?_; rotate_left; (intro _w; go_simp; try with_reducible rfl); simp only [Act.put, List.setIfInBounds_toArray, List.set_cons_zero, List.set_cons_succ])
  (refine wpD_plain 1 (v := ?_) rfl (by kernel_rfl) (by kernel_rfl) (by kernel_rfl) (fun _ _ _ h => h) (by rfl) ?_ (by assumption) ?_; rotate_left; (intro _w; go_simp; try with_reducible rfl); simp only [Act.put, List.setIfInBounds_toArray, List.set_cons_zero, List.set_cons_succ])
  (refine wpD_take 2 _ rfl (by kernel_rfl) (by kernel_rfl) (by kernel_rfl) (fun _ _ _ h => h) List.mem_cons_self (by rfl) (exec_load _ _ rfl b4 0 rfl _ _ rfl rfl (by simpa using info16)) (by assumption) ?_; simp only [Act.put, List.setIfInBounds_toArray, List.set_cons_zero, List.set_cons_succ])
  (refine wpD_take 3 _ rfl (by kernel_rfl) (by kernel_rfl) (by kernel_rfl) (fun _ _ _ h => h) (List.mem_cons_of_mem _ List.mem_cons_self) (by rfl) (exec_load _ _ rfl b5 0 rfl _ _ rfl rfl (by simpa using info16)) (by assumption) ?_; simp only [Act.put, List.setIfInBounds_toArray, List.set_cons_zero, List.set_cons_succ])
  refine wpD_plain 4 (v := .bool (eqB f g 16)) rfl (by kernel_rfl) (by kernel_rfl) (by kernel_rfl) (fun _ _ _ h => h) (by rfl) (exec_eq16 _ _ _ rfl (enc k f) (enc k g) (eqB f g 16) HQ.out rfl rfl) hold ?_
  simp only [Act.put, List.setIfInBounds_toArray, List.set_cons_zero, List.set_cons_succ]
  (refine wpD_take 5 _ rfl (by kernel_rfl) (by kernel_rfl) (by kernel_rfl) (fun _ _ _ h => h) (List.mem_cons_of_mem _ (List.mem_cons_of_mem _ List.mem_cons_self)) (by rfl) (exec_load _ _ rfl b2 0 rfl _ _ rfl rfl (by simpa using info16)) (by assumption) ?_; simp only [Act.put, List.setIfInBounds_toArray, List.set_cons_zero, List.set_cons_succ])
  (refine wpD_take 6 _ rfl (by kernel_rfl) (by kernel_rfl) (by kernel_rfl) (fun _ _ _ h => h) (List.mem_cons_of_mem _ (List.mem_cons_of_mem _ (List.mem_cons_of_mem _ List.mem_cons_self))) (by rfl) (exec_load _ _ rfl b3 0 rfl _ _ rfl rfl (by simpa using info16)) (by assumption) ?_; simp only [Act.put, List.setIfInBounds_toArray, List.set_cons_zero, List.set_cons_succ])
  refine wpD_plain 7 (v := .bool (eqB f g 16)) rfl (by kernel_rfl) (by kernel_rfl) (by kernel_rfl) (fun _ _ _ h => h) (by rfl) (exec_eq16 _ _ _ rfl f g (eqB f g 16) rfl rfl rfl) hold ?_
  simp only [Act.put, List.setIfInBounds_toArray, List.set_cons_zero, List.set_cons_succ]
  (refine wpD_plain 8 (v := (.bool true)) rfl (by kernel_rfl) (by kernel_rfl) (by kernel_rfl) (fun _ _ _ h => h) (by rfl) ?_ (by assumption) ?_; (intro _w; go_simp; (skip)); simp only [Act.put, List.setIfInBounds_toArray, List.set_cons_zero, List.set_cons_succ])
  (refine wpD_plain 9 (v := ?_) rfl (by kernel_rfl) (by kernel_rfl) (by kernel_rfl) (fun _ _ _ h => h) (by rfl) ?_ (by assumption) ?_; rotate_left; (intro _w; go_simp; try with_reducible rfl); simp only [Act.put, List.setIfInBounds_toArray, List.set_cons_zero, List.set_cons_succ])
  (refine wpD_plain 10 (v := ?_) rfl (by kernel_rfl) (by kernel_rfl) (by kernel_rfl) (fun _ _ _ h => h) (by rfl) ?_ (by assumption) ?_; rotate_left; (intro _w; go_simp; try with_reducible rfl); simp only [Act.put, List.setIfInBounds_toArray, List.set_cons_zero, List.set_cons_succ])
  refine wpD_done (by kernel_rfl) ?_ _
  go_wp2_with fail
  go_ret
  exact ⟨rfl, HR.out.2.2.2.2.2.drew⟩
end Go.Proofs.Ytgbcddhgeepjgaa.AE
