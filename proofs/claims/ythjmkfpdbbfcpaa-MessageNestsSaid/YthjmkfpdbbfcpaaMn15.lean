/-
  Part 15 of the proof: MqR, MpW.
-/
import Derived.Test.YthjmkfpdbbfcpaaMn12
import Derived.Test.YthjmkfpdbbfcpaaMn13
import Derived.Test.YthjmkfpdbbfcpaaMn14
import Derived.Test.YthjmkfpdbbfcpaaMn07
set_option linter.unusedSimpArgs false
set_option linter.unusedVariables false
namespace Go.Proofs.Ythjmkfpdbbfcpaa.ME
set_option maxRecDepth 100000
open Go.RowKit K Go.Proofs.Ythjmkfpdbbfcpaa.BE Go.Proofs.Ythjmkfpdbbfcpaa.FR

theorem zeroMsg : ∀ w, (zeroValue 29).run Try.prog w = .ok (.agg #[.int .i64 0, .int .i64 0, .int .i64 0, .string ⟨#[]⟩, .string ⟨#[]⟩, .int .i64 0, .int .i64 0, .int .i64 0, .int .i64 0, .bool false, .int .i64 0, .slice none 0 0, .string ⟨#[]⟩, .string ⟨#[]⟩, .string ⟨#[]⟩, .slice none 0 0, .string ⟨#[]⟩, .slice none 0 0, .slice none 0 0, .slice none 0 0, .string ⟨#[]⟩, .bool false, .bool false, .string ⟨#[]⟩, .string ⟨#[]⟩, .string ⟨#[]⟩, .int .i64 0, .int .i64 0, .string ⟨#[]⟩, .string ⟨#[]⟩]) w := fun _ => by kernel_rfl
theorem ReadOp.eq {bm : Nat} {m m' : Msg} {w : World} {e : Ending} {w' : World} (h : ReadOp bm m w e w') (hm : m = m') : ReadOp bm m' w e w' := hm ▸ h
theorem preadOp_any (S : Nat → Prop) (bm : Nat) (mi : Int) (n : Nd) (cs : List Value) (w : World) (hn : NdAt 7 S w n cs) (hS : ¬ S bm) (hmi : I64 mi) (ho : okF 7 n) (hB : Blk w bm 29 (mcs (msg0 mi n.tag) (.slice none 0 0) (.slice none 0 0) (.slice none 0 0) (.slice none 0 0) (.slice none 0 0))) :
    Calls Try.prog 31 #[.pointer (some ⟨bm, 0, none⟩), .agg cs.toArray] w (ReadOp bm (readO mi n) w) := by
  have hot : I64 n.tag := ⟨by have := ho.1; omega, by have := ho.2.1; omega⟩
  by_cases h96 : n.tag = 96
  · rw [h96] at hB
    refine (pro_96 S bm mi n cs w hn hS hmi ho ⟨by decide, by decide⟩ hB).mono fun _ _ h => h.eq ?_
    unfold readO
    simp [h96, ansO]
  by_cases h99 : n.tag = 99
  · rw [h99] at hB
    refine (pro_99 S bm mi n cs w hn hS hmi ho ⟨by decide, by decide⟩ hB).mono fun _ _ h => h.eq ?_
    unfold readO
    simp [h99, ansO]
  by_cases h102 : n.tag = 102
  · rw [h102] at hB
    refine (pro_102 S bm mi n cs w hn hS hmi ho ⟨by decide, by decide⟩ hB).mono fun _ _ h => h.eq ?_
    unfold readO
    simp [h102, ansO]
  by_cases h104 : n.tag = 104
  · rw [h104] at hB
    refine (pro_104 S bm mi n cs w hn hS hmi ho ⟨by decide, by decide⟩ hB).mono fun _ _ h => h.eq ?_
    unfold readO
    simp [h104, ansO]
  by_cases h100 : n.tag = 100
  · rw [h100] at hB
    refine (pro_100 S bm mi n cs w hn hS hmi ho ⟨by decide, by decide⟩ hB).mono fun _ _ h => h.eq ?_
    unfold readO
    simp [h100, ansO]
  by_cases h74 : n.tag = 74
  · rw [h74] at hB
    refine (pro_74 S bm mi n cs w hn hS hmi ho ⟨by decide, by decide⟩ hB).mono fun _ _ h => h.eq ?_
    unfold readO
    simp [h74, ansO]
  by_cases h108 : n.tag = 108
  · rw [h108] at hB
    refine (pro_108 S bm mi n cs w hn hS hmi ho ⟨by decide, by decide⟩ hB).mono fun _ _ h => h.eq ?_
    unfold readO
    simp [h108, ansO]
  by_cases h110 : n.tag = 110
  · rw [h110] at hB
    refine (pro_110 S bm mi n cs w hn hS hmi ho ⟨by decide, by decide⟩ hB).mono fun _ _ h => h.eq ?_
    unfold readO
    simp [h110, ansO]
  by_cases h80 : n.tag = 80
  · rw [h80] at hB
    refine (pro_80 S bm mi n cs w hn hS hmi ho ⟨by decide, by decide⟩ hB).mono fun _ _ h => h.eq ?_
    unfold readO
    simp [h80, ansO]
  by_cases h97 : n.tag = 97
  · rw [h97] at hB
    refine (pro_97 S bm mi n cs w hn hS hmi ho ⟨by decide, by decide⟩ hB).mono fun _ _ h => h.eq ?_
    unfold readO
    simp [h97, ansO]
  by_cases h101 : n.tag = 101
  · rw [h101] at hB
    refine (pro_101 S bm mi n cs w hn hS hmi ho ⟨by decide, by decide⟩ hB).mono fun _ _ h => h.eq ?_
    unfold readO
    simp [h101, ansO]
  by_cases h103 : n.tag = 103
  · rw [h103] at hB
    refine (pro_103 S bm mi n cs w hn hS hmi ho ⟨by decide, by decide⟩ hB).mono fun _ _ h => h.eq ?_
    unfold readO
    simp [h103, ansO]
  by_cases h105 : n.tag = 105
  · rw [h105] at hB
    refine (pro_105 S bm mi n cs w hn hS hmi ho ⟨by decide, by decide⟩ hB).mono fun _ _ h => h.eq ?_
    unfold readO
    simp [h105, ansO]
  by_cases h107 : n.tag = 107
  · rw [h107] at hB
    refine (pro_107 S bm mi n cs w hn hS hmi ho ⟨by decide, by decide⟩ hB).mono fun _ _ h => h.eq ?_
    unfold readO
    simp [h107, ansO]
  by_cases h109 : n.tag = 109
  · rw [h109] at hB
    refine (pro_109 S bm mi n cs w hn hS hmi ho ⟨by decide, by decide⟩ hB).mono fun _ _ h => h.eq ?_
    unfold readO
    simp [h109, ansO]
  by_cases h111 : n.tag = 111
  · rw [h111] at hB
    refine (pro_111 S bm mi n cs w hn hS hmi ho ⟨by decide, by decide⟩ hB).mono fun _ _ h => h.eq ?_
    unfold readO
    simp [h111, ansO]
  by_cases h120 : n.tag = 120
  · rw [h120] at hB
    refine (pro_120 S bm mi n cs w hn hS hmi ho ⟨by decide, by decide⟩ hB).mono fun _ _ h => h.eq ?_
    unfold readO
    simp [h120, ansO]
  refine (pro_none S bm mi n.tag n cs w hn hS hmi ho hot hB ⟨h96, h99, h102, h104, h100, h74, h108, h110, h80, h97, h101, h103, h105, h107, h109, h111, h120⟩).mono fun _ _ h => h.eq ?_
  unfold readO
  simp [h96, h99, h102, h104, h100, h74, h108, h110, h80, h97, h101, h103, h105, h107, h109, h111, h120, ansO]
theorem mcs_one {M : Nat} {S : Nat → Prop} {w : World} {m : Msg} {vk va vw vl vm : Value} (h : MsgC M S w m vk va vw vl vm) : ∀ u ∈ mcs m vk va vw vl vm, u.oneCell' = true := by
  have hf := h.filter
  obtain ⟨M', rfl⟩ := hf.succ
  obtain ⟨k', a', e1, -, -, -, -, -, ht, hs⟩ := hf
  simp only [List.cons.injEq, and_true, true_and] at e1
  obtain ⟨rfl, rfl⟩ := e1
  obtain ⟨_, _, rfl, -, -⟩ := ht.form
  obtain ⟨_, _, rfl, -, -⟩ := hs.form
  obtain ⟨_, _, rfl, -, -⟩ := h.wants.form
  obtain ⟨_, _, rfl, -, -⟩ := h.list.form
  obtain ⟨_, _, rfl, -, -⟩ := h.mods.form
  intro u hu
  unfold mcs at hu
  simp at hu
  rcases hu with rfl | rfl | rfl | rfl | rfl | rfl | rfl | rfl | rfl | rfl | rfl | rfl | rfl | rfl | rfl | rfl | rfl | rfl | rfl | rfl | rfl | rfl | rfl | rfl | rfl | rfl | rfl | rfl | rfl | rfl <;> rfl
theorem MsgC.monoS {M : Nat} {S S' : Nat → Prop} {w : World} {m : Msg} {vk va vw vl vm : Value} (h : MsgC M S w m vk va vw vl vm) (hs : ∀ k, k < w.heap.size → S k → S' k) : MsgC M S' w m vk va vw vl vm :=
  ⟨h.ints, h.texts, h.filter.monoS hs, h.wants.monoS hs, h.list.monoS hs fun x c hx => gpAt.mono hx hs, h.mods.monoS hs fun x c hx => gpMo.mono hx hs⟩
set_option maxHeartbeats 16000000 in
theorem pread_any (S : Nat → Prop) (n : Nd) (cs : List Value) (w : World) (hn : NdAt 8 S w n cs) (ho : okF 8 n) : Calls Try.prog 15 #[.agg cs.toArray] w fun e w' =>
    ∃ vk va vw vl vm, e = .returned (.agg (mcs (readM n) vk va vw vl vm).toArray) ∧ MsgC 6 (Since w.heap.size) w' (readM n) vk va vw vl vm ∧ Fr No w w' := by
  have HN := hid (nd_lo hn); have HOK := hid ho
  obtain ⟨a, sc, hcs, -, -, -⟩ := hn.head
  subst hcs
  obtain ⟨bs, hbs⟩ : ∃ b, sb n.body = b := ⟨_, rfl⟩
  obtain ⟨tg, htg⟩ : ∃ t, n.tag = t := ⟨_, rfl⟩
  obtain ⟨kl, hkl⟩ : ∃ k, n.kids.length = k := ⟨_, rfl⟩
  rw [hbs, htg, hkl] at HN ⊢
  obtain ⟨RM, hRM⟩ : ∃ x, readM n = x := ⟨_, rfl⟩
  rw [hRM]
  have HRM := hid hRM
  clear hn ho hbs htg hkl hRM
  go_enter Try.func15, Try.ntmps15
  go_wp2_with (first
    | ((with_reducible refine K.atO (.box 44 _) ?_); refine wpL_box rfl _ _ rfl _ rfl [.int .i64 tg, .string bs, .slice a kl sc] rfl ?_; intro w1 HB1 F1 HS1)
    | ((with_reducible refine K.atO (.alloc 29) ?_); refine wpL_alloc rfl _ rfl _ zeroMsg [.int .i64 0, .int .i64 0, .int .i64 0, .string ⟨#[]⟩, .string ⟨#[]⟩, .int .i64 0, .int .i64 0, .int .i64 0, .int .i64 0, .bool false, .int .i64 0, .slice none 0 0, .string ⟨#[]⟩, .string ⟨#[]⟩, .string ⟨#[]⟩, .slice none 0 0, .string ⟨#[]⟩, .slice none 0 0, .slice none 0 0, .slice none 0 0, .string ⟨#[]⟩, .bool false, .bool false, .string ⟨#[]⟩, .string ⟨#[]⟩, .string ⟨#[]⟩, .int .i64 0, .int .i64 0, .string ⟨#[]⟩, .string ⟨#[]⟩] rfl ?_; intro w2 HB2 F2 HS2; have HB1' := hid (HB1.out.fr F2.out id); have HF2 := hid (F1.out.trans' F2.out))
    | ((with_reducible refine K.atO (.load 44 _) ?_); refine wpL_load rfl _ _ rfl w.heap.size 0 rfl [.int .i64 tg, .string bs, .slice a kl sc] _ (HB1'.out.range 0 _ rfl) rfl rfl infoN ?_)
    | fail)
  refine (pchildren_any 7 (Lo w.heap.size) n [.int .i64 tg, .string bs, .slice a kl sc] w2 (HN.out.no HF2.out)).mono ?_
  rintro e w3 ⟨bn, rfl, hbn, hr, f3⟩
  have HBN : Hid (w.heap.size ≤ bn) := hid (Nat.le_trans HF2.out.size hbn)
  have HNE : Hid (w1.heap.size < bn) := hid (by have := HS2.out; omega)
  have HR0 := hid hr.start; have HF3 := hid (HF2.out.trans' f3); have HBr := hid (HB2.out.fr f3 id)
  clear hbn hr f3 HB1 HB1' HB2
  go_wp2_with fail
  refine (pkidn_any 6 (Lo w.heap.size) bn n 0 w3 HR0.out (by have := HBN.out; show ¬ bn < w.heap.size; omega)).mono ?_
  rintro e w4 ⟨k1, rfl, hk1, hr1, f4⟩
  have HK1 := hid hk1; have HR1 := hid hr1; have HF4 := hid (HF3.out.trans f4 fun k e => .inr (by have e : k = bn := e; have := HBN.out; omega)); have HBr4 := hid (HBr.out.fr f4 (fun e => by have e : w1.heap.size = bn := e; have := HNE.out; omega))
  clear hk1 hr1 f4 HBr
  go_wp2_with fail
  refine (pnumberOf_any _ _ _ _ w4 HK1.out).mono ?_
  rintro e w5 ⟨rfl, f5⟩
  have HR5 := hid (HR1.out.no f5); have HF5 := hid (HF4.out.trans' f5); have HBr5 := hid (HBr4.out.fr f5 id)
  clear f5 HBr4 HK1
  obtain ⟨mi, hmi⟩ : ∃ x, valN (kidN n 0) = x := ⟨_, rfl⟩
  have HMI : Hid (I64 mi) := hid (by rw [← hmi]; exact val_i64 _)
  have HRO : Hid (readO mi (kidN n 1) = RM) := hid (by rw [← HRM.out]; unfold readM; rw [hmi])
  rw [hmi]
  clear hmi
  go_wp2_with (first
    | ((with_reducible refine K.atO (.alloc 29) ?_); refine wpL_alloc rfl _ rfl _ zeroMsg [.int .i64 0, .int .i64 0, .int .i64 0, .string ⟨#[]⟩, .string ⟨#[]⟩, .int .i64 0, .int .i64 0, .int .i64 0, .int .i64 0, .bool false, .int .i64 0, .slice none 0 0, .string ⟨#[]⟩, .string ⟨#[]⟩, .string ⟨#[]⟩, .slice none 0 0, .string ⟨#[]⟩, .slice none 0 0, .slice none 0 0, .slice none 0 0, .string ⟨#[]⟩, .bool false, .bool false, .string ⟨#[]⟩, .string ⟨#[]⟩, .string ⟨#[]⟩, .int .i64 0, .int .i64 0, .string ⟨#[]⟩, .string ⟨#[]⟩] rfl ?_; intro w6 HB6 F6 HS6)
    | ((with_reducible refine K.atO (.store 29 _ _) ?_); refine wpL_storeV rfl _ _ _ rfl w5.heap.size 0 (.agg #[.int .i64 mi, .int .i64 0, .int .i64 0, .string ⟨#[]⟩, .string ⟨#[]⟩, .int .i64 0, .int .i64 0, .int .i64 0, .int .i64 0, .bool false, .int .i64 0, .slice none 0 0, .string ⟨#[]⟩, .string ⟨#[]⟩, .string ⟨#[]⟩, .slice none 0 0, .string ⟨#[]⟩, .slice none 0 0, .slice none 0 0, .slice none 0 0, .string ⟨#[]⟩, .bool false, .bool false, .string ⟨#[]⟩, .string ⟨#[]⟩, .string ⟨#[]⟩, .int .i64 0, .int .i64 0, .string ⟨#[]⟩, .string ⟨#[]⟩]) [.int .i64 mi, .int .i64 0, .int .i64 0, .string ⟨#[]⟩, .string ⟨#[]⟩, .int .i64 0, .int .i64 0, .int .i64 0, .int .i64 0, .bool false, .int .i64 0, .slice none 0 0, .string ⟨#[]⟩, .string ⟨#[]⟩, .string ⟨#[]⟩, .slice none 0 0, .string ⟨#[]⟩, .slice none 0 0, .slice none 0 0, .slice none 0 0, .string ⟨#[]⟩, .bool false, .bool false, .string ⟨#[]⟩, .string ⟨#[]⟩, .string ⟨#[]⟩, .int .i64 0, .int .i64 0, .string ⟨#[]⟩, .string ⟨#[]⟩] rfl rfl rfl _ _ HB6.out (by simp) infoMsg (by intro u hu; simp at hu; rcases hu with rfl | rfl | rfl | rfl | rfl | rfl | rfl | rfl | rfl | rfl | rfl | rfl | rfl | rfl | rfl | rfl | rfl | rfl | rfl | rfl | rfl | rfl | rfl | rfl | rfl | rfl | rfl | rfl | rfl | rfl <;> rfl) ?_; intro w7 HB7 F7 HS7; refine Hid.out ?_)
    | fail)
  have f67 : Fr No w5 w7 := F6.out.trans F7.out fun k e => .inr (by have e : k = w5.heap.size := e; omega)
  have HBm : Hid (Blk w7 w5.heap.size 29 [.int .i64 mi, .int .i64 0, .int .i64 0, .string ⟨#[]⟩, .string ⟨#[]⟩, .int .i64 0, .int .i64 0, .int .i64 0, .int .i64 0, .bool false, .int .i64 0, .slice none 0 0, .string ⟨#[]⟩, .string ⟨#[]⟩, .string ⟨#[]⟩, .slice none 0 0, .string ⟨#[]⟩, .slice none 0 0, .slice none 0 0, .slice none 0 0, .string ⟨#[]⟩, .bool false, .bool false, .string ⟨#[]⟩, .string ⟨#[]⟩, .string ⟨#[]⟩, .int .i64 0, .int .i64 0, .string ⟨#[]⟩, .string ⟨#[]⟩]) := hid HB7.out
  have HLB : Hid (bn < w5.heap.size ∧ w1.heap.size < w5.heap.size ∧ w.heap.size ≤ w5.heap.size) := hid (by have := HR5.out.lt; have := HNE.out; have := HF5.out.size; omega)
  have HR7 := hid (HR5.out.no f67); have HF7 := hid (HF5.out.trans' f67); have HBr7 := hid (HBr5.out.fr f67 id)
  obtain ⟨bm, hbm⟩ : ∃ b, w5.heap.size = b := ⟨_, rfl⟩
  rw [hbm] at HBm HLB ⊢
  clear f67 HB6 F6 HS6 HB7 F7 HS7 HBr5 hbm
  refine hid ?_
  go_wp2_with fail
  refine (pkidn_any 6 (Lo w.heap.size) bn n 1 w7 HR7.out (by have := HBN.out; show ¬ bn < w.heap.size; omega)).mono ?_
  rintro e w8 ⟨k2, rfl, hk2, hr2, f8⟩
  obtain ⟨ka, kc, hkcs, -, -, -⟩ := hk2.head
  subst hkcs
  obtain ⟨tk, htk⟩ : ∃ t, (kidN n 1).tag = t := ⟨_, rfl⟩
  obtain ⟨SK, hSK⟩ : ∃ t, sb (kidN n 1).body = t := ⟨_, rfl⟩
  obtain ⟨kn, hkn⟩ : ∃ t, (kidN n 1).kids.length = t := ⟨_, rfl⟩
  rw [htk, hSK, hkn] at hk2
  rw [htk, hSK, hkn]
  have HTK := hid htk
  have HK2 := hid hk2; have HF8 := hid (HF7.out.trans f8 fun k e => .inr (by have e : k = bn := e; have := HBN.out; omega))
  have HBm8 := hid (HBm.out.fr f8 (fun e => by have e : bm = bn := e; have := HLB.out; omega)); have HBr8 := hid (HBr7.out.fr f8 (fun e => by have e : w1.heap.size = bn := e; have := HNE.out; omega))
  clear hk2 hr2 f8 htk hSK hkn HBr7 HBm
  have HBL : Hid (bm < w8.heap.size) := hid HBm8.out.lt
  go_wp2_with (first
    | ((with_reducible refine K.atO (.alloc 44) ?_); refine wpL_alloc rfl _ rfl _ zeroN [.int .i64 0, .string ⟨#[]⟩, .slice none 0 0] rfl ?_; intro w9 HB9 F9 HS9)
    | ((with_reducible refine K.atO (.store 44 _ _) ?_); refine wpL_storeV rfl _ _ _ rfl w8.heap.size 0 (.agg #[.int .i64 tk, .string SK, .slice ka kn kc]) [.int .i64 tk, .string SK, .slice ka kn kc] rfl rfl rfl _ _ HB9.out (by simp) infoN (by intro u hu; simp at hu; rcases hu with rfl | rfl | rfl <;> rfl) ?_; intro w10 HB10 F10 HS10; have c0 : w10.cell? ⟨w8.heap.size, 0, none⟩ = some (.int .i64 tk) := HB10.out.cell 0; have HBm10 := hid ((HBm8.out.fr F9.out id).fr F10.out (fun e => by have e : bm = w8.heap.size := e; have := HBL.out; omega)))
    | ((with_reducible refine K.atO (.store 3 _ _) ?_); refine wpL_setV rfl _ _ _ rfl bm 1 (.int .i64 tk) rfl rfl rfl rfl _ _ HBm10.out (by simp) infoI0 ?_; intro w11 HB11 F11 HS11; have HBn11 := hid (HB10.out.fr F11.out (fun e => by have e : w8.heap.size = bm := e; have := HBL.out; omega)))
    | ((with_reducible refine K.atO (.load 44 _) ?_); refine wpL_load rfl _ _ rfl w8.heap.size 0 rfl [.int .i64 tk, .string SK, .slice ka kn kc] _ (HBn11.out.range 0 _ rfl) rfl rfl infoN ?_)
    | fail)
  have f910 : Fr No w8 w10 := F9.out.trans F10.out fun k e => .inr (by have e : k = w8.heap.size := e; omega)
  have HF11 := hid ((HF8.out.trans' f910).trans F11.out fun k e => .inr (by have e : k = bm := e; have := HLB.out; omega))
  have HBr11 := hid ((HBr8.out.fr f910 id).fr F11.out (fun e => by have e : w1.heap.size = bm := e; have := HLB.out; omega))
  have HK11 := hid (NdAt.fr F11.out (fun k hk _ e => by have h : k < w.heap.size := hk; have e : k = bm := e; have := HLB.out; omega) (HK2.out.no f910))
  have HBm11 : Hid (Blk w11 bm 29 (mcs (msg0 mi (kidN n 1).tag) (.slice none 0 0) (.slice none 0 0) (.slice none 0 0) (.slice none 0 0) (.slice none 0 0))) := hid (by rw [HTK.out]; exact HB11.out)
  clear f910 c0 HB9 F9 HS9 HB10 F10 HS10 HB11 F11 HS11 HBr8 HBm8 HBm10
  refine (preadOp_any (Lo w.heap.size) bm mi (kidN n 1) [.int .i64 tk, .string SK, .slice ka kn kc] w11 HK11.out (by show ¬ bm < w.heap.size; have := HLB.out; omega) HMI.out (HOK.out.kidK 1) HBm11.out).mono ?_
  rintro e w12 ⟨rfl, vk, va, vw, vl, vm, hb, hm, f12⟩
  rw [HRO.out] at hb hm
  have HB12 := hid hb; have HM12 := hid hm
  have HF12 := hid (HF11.out.trans f12 fun k e => .inr (by have e : k = bm := e; have := HLB.out; omega))
  have HBr12 := hid (HBr11.out.fr f12 (fun e => by have e : w1.heap.size = bm := e; have := HLB.out; omega))
  have HLL : Hid (w1.heap.size < w11.heap.size) := hid (by have := HBm11.out.lt; have := HLB.out; omega)
  have HONE := hid (mcs_one HM12.out)
  have HLEN := hid (show (Try.prog.info? 29).map (·.size) = some (mcs RM vk va vw vl vm).length from infoMsg)
  obtain ⟨C, hC⟩ : ∃ C, mcs RM vk va vw vl vm = C := ⟨_, rfl⟩
  rw [hC] at HB12 HONE HLEN
  have HC := hid hC
  have HCL : Hid (C.length = 30) := hid (by rw [← hC]; rfl)
  clear hb hm f12 hC
  go_wp2_with (first
    | ((with_reducible refine K.atO (.load 29 _) ?_); refine wpL_load rfl _ _ rfl bm 0 rfl C _ (HB12.out.range 0 _ (by rw [List.drop_zero, List.take_length])) rfl rfl HLEN.out ?_)
    | ((with_reducible refine K.atO (.store 29 _ _) ?_); refine wpL_storeV rfl _ _ _ rfl w1.heap.size 0 (.agg C.toArray) C rfl rfl rfl _ _ HBr12.out (by rw [HCL.out]; simp) HLEN.out HONE.out ?_; intro wz HBz Fz HSz)
    | fail)
  have hbz : Blk wz w1.heap.size 29 C := by
    have h := HBz.out
    rwa [spl_all (by rw [HCL.out]; rfl)] at h
  refine ret_cell rfl _ rfl hbz rfl rfl HLEN.out rfl ?_
  refine ⟨vk, va, vw, vl, vm, by rw [HC.out], ?_, HF12.out.trans Fz.out fun k e => .inr (by have e : k = w1.heap.size := e; have := HS1.out; omega)⟩
  exact (HM12.out.fr Fz.out (fun k hk _ e => by have h : w11.heap.size ≤ k := hk; have e : k = w1.heap.size := e; have := HLL.out; omega)).monoS (fun k _ hk => Nat.le_trans HF11.out.size hk)
end Go.Proofs.Ythjmkfpdbbfcpaa.ME

namespace Go.Proofs.Ythjmkfpdbbfcpaa.ME
set_option maxRecDepth 100000
open Go.RowKit K Go.Proofs.Ythjmkfpdbbfcpaa.BE Go.Proofs.Ythjmkfpdbbfcpaa.FR

theorem int_szI (n : Int) : Sz (intS n) := by
  have := (intG_len 7 n).2
  show (intG 7 n).length ≤ _
  omega
theorem nd_le {M N : Nat} {S : Nat → Prop} {w : World} {n : Nd} {cs : List Value} (h : NdAt M S w n cs) (hMN : M ≤ N) : NdAt N S w n cs := by
  induction hMN with
  | refl => exact h
  | step _ ih => exact ih.more
set_option maxHeartbeats 8000000 in
theorem wattr_any (E : Nat → Prop) (x : At) (cs : List Value) (w : World) (h : AtC E w x cs) (hX : x.values.length ≤ 1048576) : Calls Try.prog 79 #[.agg cs.toArray] w (Makes 3 (atN x) w) := by
  obtain ⟨v, rfl, hs, ht⟩ := h
  have HS := hid hs; have HT := hid ht; have HXL := hid hX
  obtain ⟨a, cp, rfl, -, -⟩ := ht.form
  obtain ⟨n, hn⟩ : ∃ n, x.values.length = n := ⟨_, rfl⟩
  rw [hn] at HT ⊢
  clear hs ht hn hX
  obtain ⟨ic, hic, hzc, hsc, hbc⟩ := Go.info_parts infozN
  have IC := hid hic; have ZC := hid hzc; have SC := hid hsc; have BC := hid hbc
  clear hic hzc hsc hbc
  go_enter Try.func79, Try.ntmps79
  go_wp2_with (first
    | ((with_reducible refine K.atO (.box 54 _) ?_); refine wpL_box rfl _ _ rfl _ rfl [.string (sb x.type), .slice a n cp] rfl ?_; intro w1 HB1 F1 HS1)
    | ((with_reducible refine K.atO (.alloc 44) ?_); refine wpL_alloc rfl _ rfl _ zeroN [.int .i64 0, .string ⟨#[]⟩, .slice none 0 0] rfl ?_; intro w2 HB2 F2 HS2)
    | fail)
  have HB1' := hid (HB1.out.fr F2.out id)
  have HF2 := hid (F1.out.trans' F2.out)
  have k1 : w2.cell? ⟨w.heap.size, 0, none⟩ = some (.string (sb x.type)) := HB1'.out.cell 0
  have k2 : w2.cell? ⟨w.heap.size, 1, none⟩ = some (.slice a n cp) := HB1'.out.cell 1
  have hold : Facts.hold [(1, fun w' => w'.cell? ⟨w.heap.size, 0, none⟩ = some (.string (sb x.type))), (4, fun w' => w'.cell? ⟨w.heap.size, 1, none⟩ = some (.slice a n cp))] w2.drew := Facts.cons_hold k1 (Facts.cons_hold k2 (Facts.nil_hold _))
  refine wpD_region hold (by kernel_rfl) 9 rfl ?_
  (refine wpD_plain 0 (v := ?_) rfl (by kernel_rfl) (by kernel_rfl) (by kernel_rfl) (fun _ _ _ h => h) (by rfl) ?_ (by assumption) ?_; rotate_left; (intro _w; go_simp; try with_reducible rfl); simp only [Act.put, K.put3])
  (refine wpD_take 1 _ rfl (by kernel_rfl) (by kernel_rfl) (by kernel_rfl) (fun _ _ _ h => h) List.mem_cons_self (by rfl) (v := ?_) ?_ (by assumption) ?_; rotate_left; (intro _w _hw; go_simp; try with_reducible rfl); simp only [Act.put, K.put3])
  (refine wpD_plain 3 (v := ?_) rfl (by kernel_rfl) (by kernel_rfl) (by kernel_rfl) (fun _ _ _ h => h) (by rfl) ?_ (by assumption) ?_; rotate_left; (intro _w; go_simp; try with_reducible rfl); simp only [Act.put, K.put3])
  (refine wpD_take 4 _ rfl (by kernel_rfl) (by kernel_rfl) (by kernel_rfl) (fun _ _ _ h => h) (List.mem_cons_of_mem _ List.mem_cons_self) (by rfl) (v := ?_) ?_ (by assumption) ?_; rotate_left; (intro _w _hw; go_simp; try with_reducible rfl); simp only [Act.put, K.put3])
  clear hold
  refine wpD_only 2 [(4, fun w' => w'.cell? ⟨w.heap.size, 1, none⟩ = some (.slice a n cp))] rfl (by kernel_rfl) (by kernel_rfl) (by rfl) (fun K2 hK2 => ?_)
  refine wp_call _ _ _ rfl 71 [] rfl (fun vs w => by kernel_rfl) [.string (sb x.type)] (by rfl) ?_
  refine (wtext_any (sb x.type) w2.drew).mono ?_
  rintro e w1c ⟨rfl, f1⟩
  have hf1 : Fr No w2 w1c := (Fr.refl No w2).drew.trans' f1
  refine ⟨_, rfl, hK2 _ _ (Facts.cons_hold (hf1.cell k2 id) (Facts.nil_hold _)) ?_⟩
  have k1_4 := hf1.cell k2 id
  have HF1 := hid (HF2.out.trans' hf1)
  have HG1 := hid hf1
  clear hK2 K2 f1 hf1 k2 k1
  simp only [Act.put, K.put3]
  refine wpD_only 5 [] rfl (by kernel_rfl) (by kernel_rfl) (by rfl) (fun K5 hK5 => ?_)
  refine wp_call _ _ _ rfl 75 [] rfl (fun vs w => by kernel_rfl) [.int .i64 49, .slice a n cp, .func (.func 71) #[] #[]] (by rfl) ?_
  refine (wtexts_any 49 E _ x.values w1c ⟨by omega, by omega⟩ (HT.out.no HF1.out) HXL.out).mono ?_
  rintro e w2c ⟨ds5, rfl, hnd5, f2⟩
  have hf2 : Fr No w1c w2c := f2
  refine ⟨_, rfl, hK5 _ _ (Facts.nil_hold _) ?_⟩
  have HF2 := hid (HF1.out.trans' hf2)
  have HG2 := hid (HG1.out.trans' hf2)
  obtain ⟨d5_0, d5_1, d5_2, rfl⟩ : ∃ a b c, ds5 = [a, b, c] := by
    have := hnd5.len
    match ds5, this with
    | [a, b, c], _ => exact ⟨a, b, c, rfl⟩
  have HM2_m5 := hid (since_le (N' := w2.heap.size) hnd5 (Nat.le_trans HG1.out.size (Nat.le_refl _)))
  clear hnd5
  clear hK5 K5 f2 hf2 k1_4 HG1 HF1
  simp only [Act.put, K.put3]
  refine wpD_only 6 [] rfl (by kernel_rfl) (by kernel_rfl) (by rfl) (fun K6 hK6 => ?_)
  refine wp_buildRun 42 44 2 [(0, _), (1, _)] rfl [.int .i64 4, .string (sb x.type), .slice none 0 0, d5_0, d5_1, d5_2] (run_buildAll 42 44 [.agg #[.int .i64 4, .string (sb x.type), .slice none 0 0], .agg #[d5_0, d5_1, d5_2]] ic _ Try.underlying42 IC.out ZC.out (by rw [SC.out]; decide) (by rw [SC.out]; show 2 * 3 ≤ 16777216; decide) (by show 0 < 2; decide) (by rw [SC.out]; intro u hu; simp at hu; rcases hu with rfl | rfl <;> rfl) _) ?_
  intro w3c HB3 F3 HS3
  have hf3 := F3.out
  refine hK6 _ _ (Facts.nil_hold _) ?_
  have HL3 := hid HG2.out.size
  have HM3_m5 := hid (HM2_m5.out.no hf3)
  have HF3 := hid (HF2.out.trans' hf3)
  have HG3 := hid (HG2.out.trans' hf3)
  have hX3 := HB3
  clear hK6 K6 F3 hf3 HS3 HB3 HM2_m5 HG2 HF2
  simp only [Act.put, K.put3]
  refine wpD_only 7 [] rfl (by kernel_rfl) (by kernel_rfl) (by rfl) (fun K7 hK7 => ?_)
  refine wp_call _ _ _ rfl 23 [] rfl (fun vs w => by kernel_rfl) [.int .i64 48, .slice (some ⟨w2c.heap.size, 0, none⟩) 2 2] (by rfl) ?_
  refine (wof_any 48 (some ⟨w2c.heap.size, 0, none⟩) 2 2 w3c).mono ?_
  rintro e w4c ⟨rfl, f4⟩
  have hf4 : Fr No w3c w4c := f4
  refine ⟨_, rfl, hK7 _ _ (Facts.nil_hold _) ?_⟩
  have HM4_m5 := hid (HM3_m5.out.no hf4)
  have HX4_b3 := hid (hX3.out.fr hf4 id)
  have HF4 := hid (HF3.out.trans' hf4)
  have HG4 := hid (HG3.out.trans' hf4)
  clear hK7 K7 f4 hf4 HM3_m5 hX3 HG3 HF3
  simp only [Act.put, K.put3]
  have HWH := hid (nd_kids (M := 2) (S := Since w2.heap.size) (t := 48) (kids := [txN x.type, txsN 49 x.values]) (L := [[.int .i64 4, .string (sb x.type), .slice none 0 0], [d5_0, d5_1, d5_2]]) ⟨by omega, by omega⟩ HX4_b3.out (by show w2.heap.size ≤ _; exact HL3.out) rfl (by show (2 : Nat) ≤ _; omega) (fun j y c hy hc => by
    match j, hy, hc with
    | 0, hy, hc => cases hy; cases hc; exact leaf_any 1 _ _ 4 x.type ⟨by omega, by omega⟩ HS.out
    | 1, hy, hc => cases hy; cases hc; exact HM4_m5.out
    | j + 2, hy, hc => simp at hc))
  have HBr := hid (HB2.out.fr HG4.out id)
  refine wpD_only 8 [] rfl (by kernel_rfl) (by kernel_rfl) (by rfl) (fun K8 hK8 => ?_)
  refine wp_storeV _ _ _ rfl w1.heap.size 0 (.agg #[.int .i64 48, .string ⟨#[]⟩, .slice (some ⟨w2c.heap.size, 0, none⟩) 2 2]) [.int .i64 48, .string ⟨#[]⟩, .slice (some ⟨w2c.heap.size, 0, none⟩) 2 2] rfl rfl rfl _ _ HBr.out (by simp) infoN (by intro u hu; simp at hu; rcases hu with rfl | rfl | rfl <;> rfl) ?_
  intro wz HBz Fz HSz
  refine hK8 _ _ (Facts.nil_hold _) ?_
  clear hK8 K8
  simp only [Act.put, K.put3]
  refine wpD_done (by kernel_rfl) ?_ _
  have HFz := hid (HF4.out.trans Fz.out fun k e => .inr (by have e : k = w1.heap.size := e; have := HS1.out; omega))
  have HNz := hid (since_le (N' := w.heap.size) (NdAt.fr Fz.out (fun k hk _ e => by have h : w2.heap.size ≤ k := hk; have e : k = w1.heap.size := e; have := HS2.out; omega) HWH.out) (by have := HS1.out; have := HS2.out; omega))
  go_wp2_with fail
  refine ret_cell rfl _ rfl HBz.out rfl rfl infoN rfl ?_
  exact ⟨_, rfl, HNz.out, HFz.out⟩
set_option maxHeartbeats 8000000 in
theorem wmod_any (E : Nat → Prop) (x : Mo) (cs : List Value) (w : World) (h : MoC E w x cs) (hX : x.attr.values.length ≤ 1048576) : Calls Try.prog 77 #[.agg cs.toArray] w (Makes 4 (moN x) w) := by
  obtain ⟨v, rfl, hi, hs, ht⟩ := h
  have HI := hid hi; have HXL := hid hX
  have HA : Hid (AtC E w x.attr [.string (sb x.attr.type), v]) := hid ⟨v, rfl, hs, ht⟩
  have HI3 := hid (show (Try.prog.info? 54).map (·.size) = some [Value.string (sb x.attr.type), v].length from infoAt)
  clear hi hs ht hX
  obtain ⟨ic, hic, hzc, hsc, hbc⟩ := Go.info_parts infozN
  have IC := hid hic; have ZC := hid hzc; have SC := hid hsc; have BC := hid hbc
  clear hic hzc hsc hbc
  go_enter Try.func77, Try.ntmps77
  go_wp2_with (first
    | ((with_reducible refine K.atO (.box 56 _) ?_); refine wpL_box rfl _ _ rfl _ rfl [.int .i64 x.doing, .string (sb x.attr.type), v] rfl ?_; intro w1 HB1 F1 HS1)
    | ((with_reducible refine K.atO (.alloc 44) ?_); refine wpL_alloc rfl _ rfl _ zeroN [.int .i64 0, .string ⟨#[]⟩, .slice none 0 0] rfl ?_; intro w2 HB2 F2 HS2)
    | fail)
  have HB1' := hid (HB1.out.fr F2.out id)
  have HF2 := hid (F1.out.trans' F2.out)
  have k1 : w2.cell? ⟨w.heap.size, 0, none⟩ = some (.int .i64 x.doing) := HB1'.out.cell 0
  have k2 : w2.rangeAt w.heap.size 1 [.string (sb x.attr.type), v] := HB1'.out.range 1 _ rfl
  have hold : Facts.hold [(1, fun w' => w'.cell? ⟨w.heap.size, 0, none⟩ = some (.int .i64 x.doing)), (4, fun w' => w'.rangeAt w.heap.size 1 [.string (sb x.attr.type), v])] w2.drew := Facts.cons_hold k1 (Facts.cons_hold k2 (Facts.nil_hold _))
  refine wpD_region hold (by kernel_rfl) 9 rfl ?_
  (refine wpD_plain 0 (v := ?_) rfl (by kernel_rfl) (by kernel_rfl) (by kernel_rfl) (fun _ _ _ h => h) (by rfl) ?_ (by assumption) ?_; rotate_left; (intro _w; go_simp; try with_reducible rfl); simp only [Act.put, K.put3])
  (refine wpD_take 1 _ rfl (by kernel_rfl) (by kernel_rfl) (by kernel_rfl) (fun _ _ _ h => h) List.mem_cons_self (by rfl) (v := ?_) ?_ (by assumption) ?_; rotate_left; (intro _w _hw; go_simp; try with_reducible rfl); simp only [Act.put, K.put3])
  (refine wpD_plain 3 (v := ?_) rfl (by kernel_rfl) (by kernel_rfl) (by kernel_rfl) (fun _ _ _ h => h) (by rfl) ?_ (by assumption) ?_; rotate_left; (intro _w; go_simp; try with_reducible rfl); simp only [Act.put, K.put3])
  (refine wpD_take 4 _ rfl (by kernel_rfl) (by kernel_rfl) (by kernel_rfl) (fun _ _ _ h => h) (List.mem_cons_of_mem _ List.mem_cons_self) (by rfl) (exec_load _ _ rfl w.heap.size 1 rfl _ _ rfl rfl HI3.out) (by assumption) ?_; simp only [Act.put, K.put3])
  clear hold
  refine wpD_only 2 [(4, fun w' => w'.rangeAt w.heap.size 1 [.string (sb x.attr.type), v])] rfl (by kernel_rfl) (by kernel_rfl) (by rfl) (fun K2 hK2 => ?_)
  refine wp_call _ _ _ rfl 72 [] rfl (fun vs w => by kernel_rfl) [.int .i64 x.doing] (by rfl) ?_
  refine (wchoice_any x.doing w2.drew HI.out).mono ?_
  rintro e w1c ⟨rfl, f1⟩
  have hf1 : Fr No w2 w1c := (Fr.refl No w2).drew.trans' f1
  refine ⟨_, rfl, hK2 _ _ (Facts.cons_hold (hf1.range k2 id) (Facts.nil_hold _)) ?_⟩
  have k1_4 := hf1.range k2 id
  have HF1 := hid (HF2.out.trans' hf1)
  have HG1 := hid hf1
  clear hK2 K2 f1 hf1 k2 k1
  simp only [Act.put, K.put3]
  refine wpD_only 5 [] rfl (by kernel_rfl) (by kernel_rfl) (by rfl) (fun K5 hK5 => ?_)
  refine wp_call _ _ _ rfl 79 [] rfl (fun vs w => by kernel_rfl) [.agg #[.string (sb x.attr.type), v]] (by rfl) ?_
  refine (wattr_any E x.attr [.string (sb x.attr.type), v] w1c (HA.out.no HF1.out) HXL.out).mono ?_
  rintro e w2c ⟨ds5, rfl, hnd5, f2⟩
  have hf2 : Fr No w1c w2c := f2
  refine ⟨_, rfl, hK5 _ _ (Facts.nil_hold _) ?_⟩
  have HF2 := hid (HF1.out.trans' hf2)
  have HG2 := hid (HG1.out.trans' hf2)
  obtain ⟨d5_0, d5_1, d5_2, rfl⟩ : ∃ a b c, ds5 = [a, b, c] := by
    have := hnd5.len
    match ds5, this with
    | [a, b, c], _ => exact ⟨a, b, c, rfl⟩
  have HM2_m5 := hid (since_le (N' := w2.heap.size) hnd5 (Nat.le_trans HG1.out.size (Nat.le_refl _)))
  clear hnd5
  clear hK5 K5 f2 hf2 k1_4 HG1 HF1
  simp only [Act.put, K.put3]
  refine wpD_only 6 [] rfl (by kernel_rfl) (by kernel_rfl) (by rfl) (fun K6 hK6 => ?_)
  refine wp_buildRun 42 44 2 [(0, _), (1, _)] rfl [.int .i64 10, .string (sb (intS x.doing)), .slice none 0 0, d5_0, d5_1, d5_2] (run_buildAll 42 44 [.agg #[.int .i64 10, .string (sb (intS x.doing)), .slice none 0 0], .agg #[d5_0, d5_1, d5_2]] ic _ Try.underlying42 IC.out ZC.out (by rw [SC.out]; decide) (by rw [SC.out]; show 2 * 3 ≤ 16777216; decide) (by show 0 < 2; decide) (by rw [SC.out]; intro u hu; simp at hu; rcases hu with rfl | rfl <;> rfl) _) ?_
  intro w3c HB3 F3 HS3
  have hf3 := F3.out
  refine hK6 _ _ (Facts.nil_hold _) ?_
  have HL3 := hid HG2.out.size
  have HM3_m5 := hid (HM2_m5.out.no hf3)
  have HF3 := hid (HF2.out.trans' hf3)
  have HG3 := hid (HG2.out.trans' hf3)
  have hX3 := HB3
  clear hK6 K6 F3 hf3 HS3 HB3 HM2_m5 HG2 HF2
  simp only [Act.put, K.put3]
  refine wpD_only 7 [] rfl (by kernel_rfl) (by kernel_rfl) (by rfl) (fun K7 hK7 => ?_)
  refine wp_call _ _ _ rfl 23 [] rfl (fun vs w => by kernel_rfl) [.int .i64 48, .slice (some ⟨w2c.heap.size, 0, none⟩) 2 2] (by rfl) ?_
  refine (wof_any 48 (some ⟨w2c.heap.size, 0, none⟩) 2 2 w3c).mono ?_
  rintro e w4c ⟨rfl, f4⟩
  have hf4 : Fr No w3c w4c := f4
  refine ⟨_, rfl, hK7 _ _ (Facts.nil_hold _) ?_⟩
  have HM4_m5 := hid (HM3_m5.out.no hf4)
  have HX4_b3 := hid (hX3.out.fr hf4 id)
  have HF4 := hid (HF3.out.trans' hf4)
  have HG4 := hid (HG3.out.trans' hf4)
  clear hK7 K7 f4 hf4 HM3_m5 hX3 HG3 HF3
  simp only [Act.put, K.put3]
  have HWH := hid (nd_kids (M := 3) (S := Since w2.heap.size) (t := 48) (kids := [nuN 10 x.doing, atN x.attr]) (L := [[.int .i64 10, .string (sb (intS x.doing)), .slice none 0 0], [d5_0, d5_1, d5_2]]) ⟨by omega, by omega⟩ HX4_b3.out (by show w2.heap.size ≤ _; exact HL3.out) rfl (by show (2 : Nat) ≤ _; omega) (fun j y c hy hc => by
    match j, hy, hc with
    | 0, hy, hc => cases hy; cases hc; exact leaf_any 2 _ _ 10 (intS x.doing) ⟨by omega, by omega⟩ (int_szI x.doing)
    | 1, hy, hc => cases hy; cases hc; exact HM4_m5.out
    | j + 2, hy, hc => simp at hc))
  have HBr := hid (HB2.out.fr HG4.out id)
  refine wpD_only 8 [] rfl (by kernel_rfl) (by kernel_rfl) (by rfl) (fun K8 hK8 => ?_)
  refine wp_storeV _ _ _ rfl w1.heap.size 0 (.agg #[.int .i64 48, .string ⟨#[]⟩, .slice (some ⟨w2c.heap.size, 0, none⟩) 2 2]) [.int .i64 48, .string ⟨#[]⟩, .slice (some ⟨w2c.heap.size, 0, none⟩) 2 2] rfl rfl rfl _ _ HBr.out (by simp) infoN (by intro u hu; simp at hu; rcases hu with rfl | rfl | rfl <;> rfl) ?_
  intro wz HBz Fz HSz
  refine hK8 _ _ (Facts.nil_hold _) ?_
  clear hK8 K8
  simp only [Act.put, K.put3]
  refine wpD_done (by kernel_rfl) ?_ _
  have HFz := hid (HF4.out.trans Fz.out fun k e => .inr (by have e : k = w1.heap.size := e; have := HS1.out; omega))
  have HNz := hid (since_le (N' := w.heap.size) (NdAt.fr Fz.out (fun k hk _ e => by have h : w2.heap.size ≤ k := hk; have e : k = w1.heap.size := e; have := HS2.out; omega) HWH.out) (by have := HS1.out; have := HS2.out; omega))
  go_wp2_with fail
  refine ret_cell rfl _ rfl HBz.out rfl rfl infoN rfl ?_
  exact ⟨_, rfl, HNz.out, HFz.out⟩
end Go.Proofs.Ythjmkfpdbbfcpaa.ME
