/-
  Part 14 of the proof: MpY3.
-/
import Derived.Test.YthjmkfpdbbfcpaaMk12
set_option linter.unusedSimpArgs false
set_option linter.unusedVariables false
namespace Go.Proofs.Ythjmkfpdbbfcpaa.ME
set_option maxRecDepth 100000
open Go.RowKit K Go.Proofs.Ythjmkfpdbbfcpaa.BE Go.Proofs.Ythjmkfpdbbfcpaa.FR

set_option maxHeartbeats 16000000 in
theorem pro_80 (S : Nat → Prop) (bm : Nat) (mi : Int) (n : Nd) (cs : List Value) (w : World) (hn : NdAt 7 S w n cs) (hS : ¬ S bm) (hmi : I64 mi) (ho : okF 7 n) (hot : I64 (80)) (hB : Blk w bm 29 [.int .i64 mi, .int .i64 80, .int .i64 0, .string ⟨#[]⟩, .string ⟨#[]⟩, .int .i64 0, .int .i64 0, .int .i64 0, .int .i64 0, .bool false, .int .i64 0, .slice none 0 0, .string ⟨#[]⟩, .string ⟨#[]⟩, .string ⟨#[]⟩, .slice none 0 0, .string ⟨#[]⟩, .slice none 0 0, .slice none 0 0, .slice none 0 0, .string ⟨#[]⟩, .bool false, .bool false, .string ⟨#[]⟩, .string ⟨#[]⟩, .string ⟨#[]⟩, .int .i64 0, .int .i64 0, .string ⟨#[]⟩, .string ⟨#[]⟩])  :
    Calls Try.prog 31 #[.pointer (some ⟨bm, 0, none⟩), .agg cs.toArray] w (ReadOp bm ({ msg0 mi 80 with target := valN n }) w) := by
  obtain ⟨S2, hS2⟩ : ∃ S2 : Nat → Prop, S2 = fun k => S k ∧ k < w.heap.size := ⟨_, rfl⟩
  have HS2 : Hid (∀ k, S2 k → k < w.heap.size ∧ k ≠ bm) := hid (fun k hk => by rw [hS2] at hk; exact ⟨hk.2, fun e => hS (e ▸ hk.1)⟩)
  have HD : Hid (NdAt 7 S2 w n cs) := hid (nd_two hn (fun k hk h => by rw [hS2]; exact ⟨h, hk⟩))
  have HID := hid hmi; have HOK := hid ho; have HOT := hid hot; have HB0 := hid hB; have HLM := hid hB.lt
  have k1 : w.cell? ⟨bm, 1, none⟩ = some (.int .i64 80) := hB.cell 1
  obtain ⟨a, sc, hcs, -, -, -⟩ := hn.head
  clear hn hS hmi ho hot hB hS2
  subst hcs
  obtain ⟨bs, hbs⟩ : ∃ b, sb n.body = b := ⟨_, rfl⟩
  obtain ⟨tg, htg⟩ : ∃ t, n.tag = t := ⟨_, rfl⟩
  obtain ⟨kl, hkl⟩ : ∃ k, n.kids.length = k := ⟨_, rfl⟩
  rw [hbs, htg, hkl] at HD ⊢
  have HBS := hid hbs; have HKL := hid hkl
  clear hbs htg hkl
  go_enter Try.func31, Try.ntmps31
  go_wp2_with (first
    | ((with_reducible refine K.atO (.box 44 _) ?_); refine wpL_box rfl _ _ rfl _ rfl [.int .i64 tg, .string bs, .slice a kl sc] rfl ?_; intro w1 HB1 F1 HS1)
    | ((with_reducible refine K.atO (.load 44 _) ?_); refine wpL_load rfl _ _ rfl w.heap.size 0 rfl [.int .i64 tg, .string bs, .slice a kl sc] _ (HB1.out.range 0 _ rfl) rfl rfl infoN ?_)
    | fail)
  refine (pchildren_any 6 S2 n [.int .i64 tg, .string bs, .slice a kl sc] w1 (HD.out.no F1.out)).mono ?_
  rintro e w3 ⟨bn, rfl, hbn, hr, f3⟩
  have HBN : Hid (w.heap.size ≤ bn) := hid (Nat.le_trans F1.out.size hbn)
  have HNX : Hid (w.heap.size < bn) := hid (by have := HS1.out; omega)
  have HR0 := hid hr.start; have HF3 : Hid (Fr (fun k => k = bm) w w3) := hid ((F1.out.trans' f3).mono fun _ e => e.elim)
  have HBm := hid ((HB0.out.fr F1.out (fun e => e)).fr f3 (fun e => e)); have HBx := hid (HB1.out.fr f3 (fun e => e))
  have kop : w3.cell? ⟨bm, 1, none⟩ = some (.int .i64 80) := HBm.out.cell 1
  clear hbn hr f3 HB1 F1 HS1 HB0 k1
  go_wp2_with (first
    | ((with_reducible refine K.atO (.load 44 _) ?_); refine wpL_load rfl _ _ rfl w.heap.size 0 rfl [.int .i64 tg, .string bs, .slice a kl sc] _ (HBx.out.range 0 _ rfl) rfl rfl infoN ?_)
    | fail)
  clear kop
  refine (pnumberOf_any _ S2 n [.int .i64 tg, .string bs, .slice a kl sc] w3 (NdAt.fr HF3.out (fun k hk _ e => (HS2.out k hk).2 e) HD.out)).mono ?_
  rintro e y1 ⟨rfl, f1⟩
  have HR1 := hid (HR0.out.no f1); have HF1 := hid (HF3.out.trans f1 fun _ e => e.elim); have HB1 := hid (HBm.out.fr f1 id)
  have HX1 := hid (HBx.out.fr f1 id)
  clear f1
  obtain ⟨N2, hN2⟩ : ∃ x, valN n = x := ⟨_, rfl⟩
  rw [hN2]
  have HN2 := hid hN2
  clear hN2
  go_wp2_with (first
    | ((with_reducible refine K.atO (.store 3 _ _) ?_); (fail_if_success (have := HU0)); refine wpL_setV rfl _ _ _ rfl bm 26 (.int .i64 N2) rfl rfl rfl rfl _ _ HB1.out (by simp) infoI0 ?_; intro s_0 HY0 FU0 HW0; have HU0 := HY0; refine Hid.out ?_)
    | fail)
  have hs3 : Fr (fun k => k = bm) y1 s_0 := FU0.out
  have HF3 := hid (HF1.out.trans' hs3); have HB3 := HU0
  have HR3 := hid (HR1.out.fr hs3 (fun i hi _ e => by have := HS2.out _ hi; have e : i = bm := e; omega) (fun e => by have e : bn = bm := e; have := HBN.out; have := HLM.out; omega))
  have HX3 := hid (HX1.out.fr hs3 (fun e => by have e : w.heap.size = bm := e; have := HLM.out; omega))
  clear hs3 HY0 FU0 HW0
  refine hid ?_
  go_wp2_with fail
  go_end0
  refine ⟨rfl, .slice none 0 0, .slice none 0 0, .slice none 0 0, .slice none 0 0, .slice none 0 0, ?_, ⟨⟨HID.out, ⟨by have := HOT.out; show (-9223372036854775808 : Int) ≤ 80; omega, by have := HOT.out; show (80 : Int) ≤ _; omega⟩, i64z, i64z, i64z, i64z, i64z, val_i64 _, i64z⟩, ⟨(Nat.zero_le _), (Nat.zero_le _), (Nat.zero_le _), (Nat.zero_le _), (Nat.zero_le _), (Nat.zero_le _), (Nat.zero_le _), (Nat.zero_le _)⟩, ⟨_, _, rfl, i64z, (Nat.zero_le _), (Nat.zero_le _), (Nat.zero_le _), (Nat.zero_le _), tx_none _ _, ⟨none, 0, rfl, Nat.le_refl _, by show (0 : Nat) ≤ _; omega, .inl rfl⟩⟩, tx_none _ _, ⟨none, 0, rfl, Nat.le_refl _, by show (0 : Nat) ≤ _; omega, .inl rfl⟩, ⟨none, 0, rfl, Nat.le_refl _, by show (0 : Nat) ≤ _; omega, .inl rfl⟩⟩, HF3.out⟩
  have h := HB3.out
  rw [← HN2.out] at h
  exact h
set_option maxHeartbeats 16000000 in
theorem pro_110 (S : Nat → Prop) (bm : Nat) (mi : Int) (n : Nd) (cs : List Value) (w : World) (hn : NdAt 7 S w n cs) (hS : ¬ S bm) (hmi : I64 mi) (ho : okF 7 n) (hot : I64 (110)) (hB : Blk w bm 29 [.int .i64 mi, .int .i64 110, .int .i64 0, .string ⟨#[]⟩, .string ⟨#[]⟩, .int .i64 0, .int .i64 0, .int .i64 0, .int .i64 0, .bool false, .int .i64 0, .slice none 0 0, .string ⟨#[]⟩, .string ⟨#[]⟩, .string ⟨#[]⟩, .slice none 0 0, .string ⟨#[]⟩, .slice none 0 0, .slice none 0 0, .slice none 0 0, .string ⟨#[]⟩, .bool false, .bool false, .string ⟨#[]⟩, .string ⟨#[]⟩, .string ⟨#[]⟩, .int .i64 0, .int .i64 0, .string ⟨#[]⟩, .string ⟨#[]⟩])  :
    Calls Try.prog 31 #[.pointer (some ⟨bm, 0, none⟩), .agg cs.toArray] w (ReadOp bm ({ msg0 mi 110 with name := (kidN n 0).body, type := (kidN (kidN n 1) 0).body, value := (kidN (kidN n 1) 1).body }) w) := by
  obtain ⟨S2, hS2⟩ : ∃ S2 : Nat → Prop, S2 = fun k => S k ∧ k < w.heap.size := ⟨_, rfl⟩
  have HS2 : Hid (∀ k, S2 k → k < w.heap.size ∧ k ≠ bm) := hid (fun k hk => by rw [hS2] at hk; exact ⟨hk.2, fun e => hS (e ▸ hk.1)⟩)
  have HD : Hid (NdAt 7 S2 w n cs) := hid (nd_two hn (fun k hk h => by rw [hS2]; exact ⟨h, hk⟩))
  have HID := hid hmi; have HOK := hid ho; have HOT := hid hot; have HB0 := hid hB; have HLM := hid hB.lt
  have k1 : w.cell? ⟨bm, 1, none⟩ = some (.int .i64 110) := hB.cell 1
  obtain ⟨a, sc, hcs, -, -, -⟩ := hn.head
  clear hn hS hmi ho hot hB hS2
  subst hcs
  obtain ⟨bs, hbs⟩ : ∃ b, sb n.body = b := ⟨_, rfl⟩
  obtain ⟨tg, htg⟩ : ∃ t, n.tag = t := ⟨_, rfl⟩
  obtain ⟨kl, hkl⟩ : ∃ k, n.kids.length = k := ⟨_, rfl⟩
  rw [hbs, htg, hkl] at HD ⊢
  have HBS := hid hbs; have HKL := hid hkl
  clear hbs htg hkl
  go_enter Try.func31, Try.ntmps31
  go_wp2_with (first
    | ((with_reducible refine K.atO (.box 44 _) ?_); refine wpL_box rfl _ _ rfl _ rfl [.int .i64 tg, .string bs, .slice a kl sc] rfl ?_; intro w1 HB1 F1 HS1)
    | ((with_reducible refine K.atO (.load 44 _) ?_); refine wpL_load rfl _ _ rfl w.heap.size 0 rfl [.int .i64 tg, .string bs, .slice a kl sc] _ (HB1.out.range 0 _ rfl) rfl rfl infoN ?_)
    | fail)
  refine (pchildren_any 6 S2 n [.int .i64 tg, .string bs, .slice a kl sc] w1 (HD.out.no F1.out)).mono ?_
  rintro e w3 ⟨bn, rfl, hbn, hr, f3⟩
  have HBN : Hid (w.heap.size ≤ bn) := hid (Nat.le_trans F1.out.size hbn)
  have HNX : Hid (w.heap.size < bn) := hid (by have := HS1.out; omega)
  have HR0 := hid hr.start; have HF3 : Hid (Fr (fun k => k = bm) w w3) := hid ((F1.out.trans' f3).mono fun _ e => e.elim)
  have HBm := hid ((HB0.out.fr F1.out (fun e => e)).fr f3 (fun e => e)); have HBx := hid (HB1.out.fr f3 (fun e => e))
  have kop : w3.cell? ⟨bm, 1, none⟩ = some (.int .i64 110) := HBm.out.cell 1
  clear hbn hr f3 HB1 F1 HS1 HB0 k1
  go_wp2_with fail
  clear kop
  refine (pkidn_any 5 S2 bn n 0 w3 HR0.out (fun h => by have := HS2.out _ h; have := HBN.out; omega)).mono ?_
  rintro e y1 ⟨k1, rfl, hk1, hr1, f1⟩
  have HK1 := hid hk1; have HR1 := hid hr1; have HF1 := hid (HF3.out.trans f1 fun k e => .inr (by have e : k = bn := e; have := HBN.out; omega)); have HB1 := hid (HBm.out.fr f1 (fun e => by have e : bm = bn := e; have := HBN.out; have := HLM.out; omega))
  have HX1 := hid (HBx.out.fr f1 (fun e => by have e : w.heap.size = bn := e; have := HNX.out; omega))
  clear hk1 hr1 f1
  go_wp2_with fail
  refine (ptextOf_any _ _ _ _ y1 HK1.out).mono ?_
  rintro e y2 ⟨rfl, f2⟩
  have HR2 := hid (HR1.out.no f2); have HF2 := hid (HF1.out.trans f2 fun _ e => e.elim); have HB2 := hid (HB1.out.fr f2 id)
  have HX2 := hid (HX1.out.fr f2 id)
  clear f2
  obtain ⟨T3, hT3⟩ : ∃ x, sb (kidN n 0).body = x := ⟨_, rfl⟩
  rw [hT3]
  have HT3 := hid hT3
  clear hT3
  go_wp2_with (first
    | ((with_reducible refine K.atO (.store 9 _ _) ?_); (fail_if_success (have := HU0)); refine wpL_setV rfl _ _ _ rfl bm 3 (.string T3) rfl rfl rfl rfl _ _ HB2.out (by simp) infoS ?_; intro s_0 HY0 FU0 HW0; have HU0 := HY0; refine Hid.out ?_)
    | fail)
  have hs4 : Fr (fun k => k = bm) y2 s_0 := FU0.out
  have HF4 := hid (HF2.out.trans' hs4); have HB4 := HU0
  have HR4 := hid (HR2.out.fr hs4 (fun i hi _ e => by have := HS2.out _ hi; have e : i = bm := e; omega) (fun e => by have e : bn = bm := e; have := HBN.out; have := HLM.out; omega))
  have HX4 := hid (HX2.out.fr hs4 (fun e => by have e : w.heap.size = bm := e; have := HLM.out; omega))
  clear hs4 HY0 FU0 HW0
  refine hid ?_
  go_wp2_with fail
  refine (pkidn_any 5 S2 bn n 1 s_0 HR4.out (fun h => by have := HS2.out _ h; have := HBN.out; omega)).mono ?_
  rintro e y5 ⟨k5, rfl, hk5, hr5, f5⟩
  have HK5 := hid hk5; have HR5 := hid hr5; have HF5 := hid (HF4.out.trans f5 fun k e => .inr (by have e : k = bn := e; have := HBN.out; omega)); have HB5 := hid (HB4.out.fr f5 (fun e => by have e : bm = bn := e; have := HBN.out; have := HLM.out; omega))
  have HX5 := hid (HX4.out.fr f5 (fun e => by have e : w.heap.size = bn := e; have := HNX.out; omega))
  clear hk5 hr5 f5
  go_wp2_with fail
  refine (pchildren_any 5 S2 (kidN n 1) _ y5 HK5.out).mono ?_
  rintro e z1 ⟨bq, rfl, hbq, hrq, fq⟩
  have HBNq : Hid (w.heap.size ≤ bq) := hid (Nat.le_trans HF5.out.size hbq)
  have HNXq : Hid (w.heap.size < bq) := hid (by have h1 := HX5.out.lt; omega)
  have HRq := hid hrq.start
  have HFq := hid (HF5.out.trans fq fun _ e => e.elim); have HBq := hid (HB5.out.fr fq (fun e => e)); have HXq := hid (HX5.out.fr fq (fun e => e))
  clear hbq hrq fq
  go_wp2_with fail
  refine (pkidn_any 4 S2 bq (kidN n 1) 0 z1 HRq.out (fun h => by have := HS2.out _ h; have := HBNq.out; omega)).mono ?_
  rintro e y6 ⟨k6, rfl, hk6, hr6, f6⟩
  have HK6 := hid hk6; have HR6 := hid hr6; have HF6 := hid (HFq.out.trans f6 fun k e => .inr (by have e : k = bq := e; have := HBNq.out; omega)); have HB6 := hid (HBq.out.fr f6 (fun e => by have e : bm = bq := e; have := HBNq.out; have := HLM.out; omega))
  have HX6 := hid (HXq.out.fr f6 (fun e => by have e : w.heap.size = bq := e; have := HNXq.out; omega))
  clear hk6 hr6 f6
  go_wp2_with fail
  refine (ptextOf_any _ _ _ _ y6 HK6.out).mono ?_
  rintro e y7 ⟨rfl, f7⟩
  have HR7 := hid (HR6.out.no f7); have HF7 := hid (HF6.out.trans f7 fun _ e => e.elim); have HB7 := hid (HB6.out.fr f7 id)
  have HX7 := hid (HX6.out.fr f7 id)
  clear f7
  obtain ⟨T8, hT8⟩ : ∃ x, sb (kidN (kidN n 1) 0).body = x := ⟨_, rfl⟩
  rw [hT8]
  have HT8 := hid hT8
  clear hT8
  go_wp2_with fail
  refine (pkidn_any 4 S2 bq (kidN n 1) 1 y7 HR7.out (fun h => by have := HS2.out _ h; have := HBNq.out; omega)).mono ?_
  rintro e y9 ⟨k9, rfl, hk9, hr9, f9⟩
  have HK9 := hid hk9; have HR9 := hid hr9; have HF9 := hid (HF7.out.trans f9 fun k e => .inr (by have e : k = bq := e; have := HBNq.out; omega)); have HB9 := hid (HB7.out.fr f9 (fun e => by have e : bm = bq := e; have := HBNq.out; have := HLM.out; omega))
  have HX9 := hid (HX7.out.fr f9 (fun e => by have e : w.heap.size = bq := e; have := HNXq.out; omega))
  clear hk9 hr9 f9
  go_wp2_with fail
  refine (ptextOf_any _ _ _ _ y9 HK9.out).mono ?_
  rintro e y10 ⟨rfl, f10⟩
  have HR10 := hid (HR9.out.no f10); have HF10 := hid (HF9.out.trans f10 fun _ e => e.elim); have HB10 := hid (HB9.out.fr f10 id)
  have HX10 := hid (HX9.out.fr f10 id)
  clear f10
  obtain ⟨T11, hT11⟩ : ∃ x, sb (kidN (kidN n 1) 1).body = x := ⟨_, rfl⟩
  rw [hT11]
  have HT11 := hid hT11
  clear hT11
  go_wp2_with (first
    | ((with_reducible refine K.atO (.store 9 _ _) ?_); (fail_if_success (have := HU1)); refine wpL_setV rfl _ _ _ rfl bm 24 (.string T8) rfl rfl rfl rfl _ _ HB10.out (by simp) infoS ?_; intro s_1 HY1 FU1 HW1; have HU1 := HY1)
    | ((with_reducible refine K.atO (.store 9 _ _) ?_); (fail_if_success (have := HU2)); (have := HU1); refine wpL_setV rfl _ _ _ rfl bm 25 (.string T11) rfl rfl rfl rfl _ _ HU1.out (by simp) infoS ?_; intro s_2 HY2 FU2 HW2; have HU2 := HY2; refine Hid.out ?_)
    | fail)
  have hs12 : Fr (fun k => k = bm) y10 s_2 := (FU1.out.trans' FU2.out)
  have HF12 := hid (HF10.out.trans' hs12); have HB12 := HU2
  have HR12 := hid (HR10.out.fr hs12 (fun i hi _ e => by have := HS2.out _ hi; have e : i = bm := e; omega) (fun e => by have e : bq = bm := e; have := HBNq.out; have := HLM.out; omega))
  have HX12 := hid (HX10.out.fr hs12 (fun e => by have e : w.heap.size = bm := e; have := HLM.out; omega))
  clear hs12 HY1 FU1 HW1 HY2 FU2 HW2
  refine hid ?_
  go_wp2_with fail
  go_end0
  refine ⟨rfl, .slice none 0 0, .slice none 0 0, .slice none 0 0, .slice none 0 0, .slice none 0 0, ?_, ⟨⟨HID.out, ⟨by have := HOT.out; show (-9223372036854775808 : Int) ≤ 110; omega, by have := HOT.out; show (110 : Int) ≤ _; omega⟩, i64z, i64z, i64z, i64z, i64z, i64z, i64z⟩, ⟨kid_szN HD.out 0, (Nat.zero_le _), (Nat.zero_le _), (Nat.zero_le _), kid_szK HD.out 1 0, kid_szK HD.out 1 1, (Nat.zero_le _), (Nat.zero_le _)⟩, ⟨_, _, rfl, i64z, (Nat.zero_le _), (Nat.zero_le _), (Nat.zero_le _), (Nat.zero_le _), tx_none _ _, ⟨none, 0, rfl, Nat.le_refl _, by show (0 : Nat) ≤ _; omega, .inl rfl⟩⟩, tx_none _ _, ⟨none, 0, rfl, Nat.le_refl _, by show (0 : Nat) ≤ _; omega, .inl rfl⟩, ⟨none, 0, rfl, Nat.le_refl _, by show (0 : Nat) ≤ _; omega, .inl rfl⟩⟩, HF12.out⟩
  have h := HB12.out
  rw [← HT3.out, ← HT8.out, ← HT11.out] at h
  exact h
set_option maxHeartbeats 16000000 in
theorem pro_97 (S : Nat → Prop) (bm : Nat) (mi : Int) (n : Nd) (cs : List Value) (w : World) (hn : NdAt 7 S w n cs) (hS : ¬ S bm) (hmi : I64 mi) (ho : okF 7 n) (hot : I64 (97)) (hB : Blk w bm 29 [.int .i64 mi, .int .i64 97, .int .i64 0, .string ⟨#[]⟩, .string ⟨#[]⟩, .int .i64 0, .int .i64 0, .int .i64 0, .int .i64 0, .bool false, .int .i64 0, .slice none 0 0, .string ⟨#[]⟩, .string ⟨#[]⟩, .string ⟨#[]⟩, .slice none 0 0, .string ⟨#[]⟩, .slice none 0 0, .slice none 0 0, .slice none 0 0, .string ⟨#[]⟩, .bool false, .bool false, .string ⟨#[]⟩, .string ⟨#[]⟩, .string ⟨#[]⟩, .int .i64 0, .int .i64 0, .string ⟨#[]⟩, .string ⟨#[]⟩])  :
    Calls Try.prog 31 #[.pointer (some ⟨bm, 0, none⟩), .agg cs.toArray] w (ReadOp bm ({ msg0 mi 97 with code := valN (kidN n 0), matched := (kidN n 1).body, text := (kidN n 2).body, name := (kidN n 3).body }) w) := by
  obtain ⟨S2, hS2⟩ : ∃ S2 : Nat → Prop, S2 = fun k => S k ∧ k < w.heap.size := ⟨_, rfl⟩
  have HS2 : Hid (∀ k, S2 k → k < w.heap.size ∧ k ≠ bm) := hid (fun k hk => by rw [hS2] at hk; exact ⟨hk.2, fun e => hS (e ▸ hk.1)⟩)
  have HD : Hid (NdAt 7 S2 w n cs) := hid (nd_two hn (fun k hk h => by rw [hS2]; exact ⟨h, hk⟩))
  have HID := hid hmi; have HOK := hid ho; have HOT := hid hot; have HB0 := hid hB; have HLM := hid hB.lt
  have k1 : w.cell? ⟨bm, 1, none⟩ = some (.int .i64 97) := hB.cell 1
  obtain ⟨a, sc, hcs, -, -, -⟩ := hn.head
  clear hn hS hmi ho hot hB hS2
  subst hcs
  obtain ⟨bs, hbs⟩ : ∃ b, sb n.body = b := ⟨_, rfl⟩
  obtain ⟨tg, htg⟩ : ∃ t, n.tag = t := ⟨_, rfl⟩
  obtain ⟨kl, hkl⟩ : ∃ k, n.kids.length = k := ⟨_, rfl⟩
  rw [hbs, htg, hkl] at HD ⊢
  have HBS := hid hbs; have HKL := hid hkl
  clear hbs htg hkl
  go_enter Try.func31, Try.ntmps31
  go_wp2_with (first
    | ((with_reducible refine K.atO (.box 44 _) ?_); refine wpL_box rfl _ _ rfl _ rfl [.int .i64 tg, .string bs, .slice a kl sc] rfl ?_; intro w1 HB1 F1 HS1)
    | ((with_reducible refine K.atO (.load 44 _) ?_); refine wpL_load rfl _ _ rfl w.heap.size 0 rfl [.int .i64 tg, .string bs, .slice a kl sc] _ (HB1.out.range 0 _ rfl) rfl rfl infoN ?_)
    | fail)
  refine (pchildren_any 6 S2 n [.int .i64 tg, .string bs, .slice a kl sc] w1 (HD.out.no F1.out)).mono ?_
  rintro e w3 ⟨bn, rfl, hbn, hr, f3⟩
  have HBN : Hid (w.heap.size ≤ bn) := hid (Nat.le_trans F1.out.size hbn)
  have HNX : Hid (w.heap.size < bn) := hid (by have := HS1.out; omega)
  have HR0 := hid hr.start; have HF3 : Hid (Fr (fun k => k = bm) w w3) := hid ((F1.out.trans' f3).mono fun _ e => e.elim)
  have HBm := hid ((HB0.out.fr F1.out (fun e => e)).fr f3 (fun e => e)); have HBx := hid (HB1.out.fr f3 (fun e => e))
  have kop : w3.cell? ⟨bm, 1, none⟩ = some (.int .i64 97) := HBm.out.cell 1
  clear hbn hr f3 HB1 F1 HS1 HB0 k1
  go_wp2_with fail
  clear kop
  refine (pkidn_any 5 S2 bn n 0 w3 HR0.out (fun h => by have := HS2.out _ h; have := HBN.out; omega)).mono ?_
  rintro e y1 ⟨k1, rfl, hk1, hr1, f1⟩
  have HK1 := hid hk1; have HR1 := hid hr1; have HF1 := hid (HF3.out.trans f1 fun k e => .inr (by have e : k = bn := e; have := HBN.out; omega)); have HB1 := hid (HBm.out.fr f1 (fun e => by have e : bm = bn := e; have := HBN.out; have := HLM.out; omega))
  have HX1 := hid (HBx.out.fr f1 (fun e => by have e : w.heap.size = bn := e; have := HNX.out; omega))
  clear hk1 hr1 f1
  go_wp2_with fail
  refine (pnumberOf_any _ _ _ _ y1 HK1.out).mono ?_
  rintro e y2 ⟨rfl, f2⟩
  have HR2 := hid (HR1.out.no f2); have HF2 := hid (HF1.out.trans f2 fun _ e => e.elim); have HB2 := hid (HB1.out.fr f2 id)
  have HX2 := hid (HX1.out.fr f2 id)
  clear f2
  obtain ⟨N3, hN3⟩ : ∃ x, valN (kidN n 0) = x := ⟨_, rfl⟩
  rw [hN3]
  have HN3 := hid hN3
  clear hN3
  go_wp2_with fail
  refine (pkidn_any 5 S2 bn n 1 y2 HR2.out (fun h => by have := HS2.out _ h; have := HBN.out; omega)).mono ?_
  rintro e y4 ⟨k4, rfl, hk4, hr4, f4⟩
  have HK4 := hid hk4; have HR4 := hid hr4; have HF4 := hid (HF2.out.trans f4 fun k e => .inr (by have e : k = bn := e; have := HBN.out; omega)); have HB4 := hid (HB2.out.fr f4 (fun e => by have e : bm = bn := e; have := HBN.out; have := HLM.out; omega))
  have HX4 := hid (HX2.out.fr f4 (fun e => by have e : w.heap.size = bn := e; have := HNX.out; omega))
  clear hk4 hr4 f4
  go_wp2_with fail
  refine (ptextOf_any _ _ _ _ y4 HK4.out).mono ?_
  rintro e y5 ⟨rfl, f5⟩
  have HR5 := hid (HR4.out.no f5); have HF5 := hid (HF4.out.trans f5 fun _ e => e.elim); have HB5 := hid (HB4.out.fr f5 id)
  have HX5 := hid (HX4.out.fr f5 id)
  clear f5
  obtain ⟨T6, hT6⟩ : ∃ x, sb (kidN n 1).body = x := ⟨_, rfl⟩
  rw [hT6]
  have HT6 := hid hT6
  clear hT6
  go_wp2_with fail
  refine (pkidn_any 5 S2 bn n 2 y5 HR5.out (fun h => by have := HS2.out _ h; have := HBN.out; omega)).mono ?_
  rintro e y7 ⟨k7, rfl, hk7, hr7, f7⟩
  have HK7 := hid hk7; have HR7 := hid hr7; have HF7 := hid (HF5.out.trans f7 fun k e => .inr (by have e : k = bn := e; have := HBN.out; omega)); have HB7 := hid (HB5.out.fr f7 (fun e => by have e : bm = bn := e; have := HBN.out; have := HLM.out; omega))
  have HX7 := hid (HX5.out.fr f7 (fun e => by have e : w.heap.size = bn := e; have := HNX.out; omega))
  clear hk7 hr7 f7
  go_wp2_with fail
  refine (ptextOf_any _ _ _ _ y7 HK7.out).mono ?_
  rintro e y8 ⟨rfl, f8⟩
  have HR8 := hid (HR7.out.no f8); have HF8 := hid (HF7.out.trans f8 fun _ e => e.elim); have HB8 := hid (HB7.out.fr f8 id)
  have HX8 := hid (HX7.out.fr f8 id)
  clear f8
  obtain ⟨T9, hT9⟩ : ∃ x, sb (kidN n 2).body = x := ⟨_, rfl⟩
  rw [hT9]
  have HT9 := hid hT9
  clear hT9
  go_wp2_with fail
  refine (pkidn_any 5 S2 bn n 3 y8 HR8.out (fun h => by have := HS2.out _ h; have := HBN.out; omega)).mono ?_
  rintro e y10 ⟨k10, rfl, hk10, hr10, f10⟩
  have HK10 := hid hk10; have HR10 := hid hr10; have HF10 := hid (HF8.out.trans f10 fun k e => .inr (by have e : k = bn := e; have := HBN.out; omega)); have HB10 := hid (HB8.out.fr f10 (fun e => by have e : bm = bn := e; have := HBN.out; have := HLM.out; omega))
  have HX10 := hid (HX8.out.fr f10 (fun e => by have e : w.heap.size = bn := e; have := HNX.out; omega))
  clear hk10 hr10 f10
  go_wp2_with fail
  refine (ptextOf_any _ _ _ _ y10 HK10.out).mono ?_
  rintro e y11 ⟨rfl, f11⟩
  have HR11 := hid (HR10.out.no f11); have HF11 := hid (HF10.out.trans f11 fun _ e => e.elim); have HB11 := hid (HB10.out.fr f11 id)
  have HX11 := hid (HX10.out.fr f11 id)
  clear f11
  obtain ⟨T12, hT12⟩ : ∃ x, sb (kidN n 3).body = x := ⟨_, rfl⟩
  rw [hT12]
  have HT12 := hid hT12
  clear hT12
  go_wp2_with (first
    | ((with_reducible refine K.atO (.store 3 _ _) ?_); (fail_if_success (have := HU0)); refine wpL_setV rfl _ _ _ rfl bm 27 (.int .i64 N3) rfl rfl rfl rfl _ _ HB11.out (by simp) infoI0 ?_; intro s_0 HY0 FU0 HW0; have HU0 := HY0)
    | ((with_reducible refine K.atO (.store 9 _ _) ?_); (fail_if_success (have := HU1)); (have := HU0); refine wpL_setV rfl _ _ _ rfl bm 28 (.string T6) rfl rfl rfl rfl _ _ HU0.out (by simp) infoS ?_; intro s_1 HY1 FU1 HW1; have HU1 := HY1)
    | ((with_reducible refine K.atO (.store 9 _ _) ?_); (fail_if_success (have := HU2)); (have := HU1); refine wpL_setV rfl _ _ _ rfl bm 29 (.string T9) rfl rfl rfl rfl _ _ HU1.out (by simp) infoS ?_; intro s_2 HY2 FU2 HW2; have HU2 := HY2)
    | ((with_reducible refine K.atO (.store 9 _ _) ?_); (fail_if_success (have := HU3)); (have := HU2); refine wpL_setV rfl _ _ _ rfl bm 3 (.string T12) rfl rfl rfl rfl _ _ HU2.out (by simp) infoS ?_; intro s_3 HY3 FU3 HW3; have HU3 := HY3; refine Hid.out ?_)
    | fail)
  have hs13 : Fr (fun k => k = bm) y11 s_3 := (((FU0.out.trans' FU1.out).trans' FU2.out).trans' FU3.out)
  have HF13 := hid (HF11.out.trans' hs13); have HB13 := HU3
  have HR13 := hid (HR11.out.fr hs13 (fun i hi _ e => by have := HS2.out _ hi; have e : i = bm := e; omega) (fun e => by have e : bn = bm := e; have := HBN.out; have := HLM.out; omega))
  have HX13 := hid (HX11.out.fr hs13 (fun e => by have e : w.heap.size = bm := e; have := HLM.out; omega))
  clear hs13 HY0 FU0 HW0 HY1 FU1 HW1 HY2 FU2 HW2 HY3 FU3 HW3
  refine hid ?_
  go_wp2_with fail
  go_end0
  refine ⟨rfl, .slice none 0 0, .slice none 0 0, .slice none 0 0, .slice none 0 0, .slice none 0 0, ?_, ⟨⟨HID.out, ⟨by have := HOT.out; show (-9223372036854775808 : Int) ≤ 97; omega, by have := HOT.out; show (97 : Int) ≤ _; omega⟩, i64z, i64z, i64z, i64z, i64z, i64z, val_i64 _⟩, ⟨kid_szN HD.out 3, (Nat.zero_le _), (Nat.zero_le _), (Nat.zero_le _), (Nat.zero_le _), (Nat.zero_le _), kid_szN HD.out 1, kid_szN HD.out 2⟩, ⟨_, _, rfl, i64z, (Nat.zero_le _), (Nat.zero_le _), (Nat.zero_le _), (Nat.zero_le _), tx_none _ _, ⟨none, 0, rfl, Nat.le_refl _, by show (0 : Nat) ≤ _; omega, .inl rfl⟩⟩, tx_none _ _, ⟨none, 0, rfl, Nat.le_refl _, by show (0 : Nat) ≤ _; omega, .inl rfl⟩, ⟨none, 0, rfl, Nat.le_refl _, by show (0 : Nat) ≤ _; omega, .inl rfl⟩⟩, HF13.out⟩
  have h := HB13.out
  rw [← HN3.out, ← HT6.out, ← HT9.out, ← HT12.out] at h
  exact h
set_option maxHeartbeats 16000000 in
theorem pro_101 (S : Nat → Prop) (bm : Nat) (mi : Int) (n : Nd) (cs : List Value) (w : World) (hn : NdAt 7 S w n cs) (hS : ¬ S bm) (hmi : I64 mi) (ho : okF 7 n) (hot : I64 (101)) (hB : Blk w bm 29 [.int .i64 mi, .int .i64 101, .int .i64 0, .string ⟨#[]⟩, .string ⟨#[]⟩, .int .i64 0, .int .i64 0, .int .i64 0, .int .i64 0, .bool false, .int .i64 0, .slice none 0 0, .string ⟨#[]⟩, .string ⟨#[]⟩, .string ⟨#[]⟩, .slice none 0 0, .string ⟨#[]⟩, .slice none 0 0, .slice none 0 0, .slice none 0 0, .string ⟨#[]⟩, .bool false, .bool false, .string ⟨#[]⟩, .string ⟨#[]⟩, .string ⟨#[]⟩, .int .i64 0, .int .i64 0, .string ⟨#[]⟩, .string ⟨#[]⟩])  :
    Calls Try.prog 31 #[.pointer (some ⟨bm, 0, none⟩), .agg cs.toArray] w (ReadOp bm ({ msg0 mi 101 with code := valN (kidN n 0), matched := (kidN n 1).body, text := (kidN n 2).body, name := (kidN n 3).body }) w) := by
  obtain ⟨S2, hS2⟩ : ∃ S2 : Nat → Prop, S2 = fun k => S k ∧ k < w.heap.size := ⟨_, rfl⟩
  have HS2 : Hid (∀ k, S2 k → k < w.heap.size ∧ k ≠ bm) := hid (fun k hk => by rw [hS2] at hk; exact ⟨hk.2, fun e => hS (e ▸ hk.1)⟩)
  have HD : Hid (NdAt 7 S2 w n cs) := hid (nd_two hn (fun k hk h => by rw [hS2]; exact ⟨h, hk⟩))
  have HID := hid hmi; have HOK := hid ho; have HOT := hid hot; have HB0 := hid hB; have HLM := hid hB.lt
  have k1 : w.cell? ⟨bm, 1, none⟩ = some (.int .i64 101) := hB.cell 1
  obtain ⟨a, sc, hcs, -, -, -⟩ := hn.head
  clear hn hS hmi ho hot hB hS2
  subst hcs
  obtain ⟨bs, hbs⟩ : ∃ b, sb n.body = b := ⟨_, rfl⟩
  obtain ⟨tg, htg⟩ : ∃ t, n.tag = t := ⟨_, rfl⟩
  obtain ⟨kl, hkl⟩ : ∃ k, n.kids.length = k := ⟨_, rfl⟩
  rw [hbs, htg, hkl] at HD ⊢
  have HBS := hid hbs; have HKL := hid hkl
  clear hbs htg hkl
  go_enter Try.func31, Try.ntmps31
  go_wp2_with (first
    | ((with_reducible refine K.atO (.box 44 _) ?_); refine wpL_box rfl _ _ rfl _ rfl [.int .i64 tg, .string bs, .slice a kl sc] rfl ?_; intro w1 HB1 F1 HS1)
    | ((with_reducible refine K.atO (.load 44 _) ?_); refine wpL_load rfl _ _ rfl w.heap.size 0 rfl [.int .i64 tg, .string bs, .slice a kl sc] _ (HB1.out.range 0 _ rfl) rfl rfl infoN ?_)
    | fail)
  refine (pchildren_any 6 S2 n [.int .i64 tg, .string bs, .slice a kl sc] w1 (HD.out.no F1.out)).mono ?_
  rintro e w3 ⟨bn, rfl, hbn, hr, f3⟩
  have HBN : Hid (w.heap.size ≤ bn) := hid (Nat.le_trans F1.out.size hbn)
  have HNX : Hid (w.heap.size < bn) := hid (by have := HS1.out; omega)
  have HR0 := hid hr.start; have HF3 : Hid (Fr (fun k => k = bm) w w3) := hid ((F1.out.trans' f3).mono fun _ e => e.elim)
  have HBm := hid ((HB0.out.fr F1.out (fun e => e)).fr f3 (fun e => e)); have HBx := hid (HB1.out.fr f3 (fun e => e))
  have kop : w3.cell? ⟨bm, 1, none⟩ = some (.int .i64 101) := HBm.out.cell 1
  clear hbn hr f3 HB1 F1 HS1 HB0 k1
  go_wp2_with fail
  clear kop
  refine (pkidn_any 5 S2 bn n 0 w3 HR0.out (fun h => by have := HS2.out _ h; have := HBN.out; omega)).mono ?_
  rintro e y1 ⟨k1, rfl, hk1, hr1, f1⟩
  have HK1 := hid hk1; have HR1 := hid hr1; have HF1 := hid (HF3.out.trans f1 fun k e => .inr (by have e : k = bn := e; have := HBN.out; omega)); have HB1 := hid (HBm.out.fr f1 (fun e => by have e : bm = bn := e; have := HBN.out; have := HLM.out; omega))
  have HX1 := hid (HBx.out.fr f1 (fun e => by have e : w.heap.size = bn := e; have := HNX.out; omega))
  clear hk1 hr1 f1
  go_wp2_with fail
  refine (pnumberOf_any _ _ _ _ y1 HK1.out).mono ?_
  rintro e y2 ⟨rfl, f2⟩
  have HR2 := hid (HR1.out.no f2); have HF2 := hid (HF1.out.trans f2 fun _ e => e.elim); have HB2 := hid (HB1.out.fr f2 id)
  have HX2 := hid (HX1.out.fr f2 id)
  clear f2
  obtain ⟨N3, hN3⟩ : ∃ x, valN (kidN n 0) = x := ⟨_, rfl⟩
  rw [hN3]
  have HN3 := hid hN3
  clear hN3
  go_wp2_with fail
  refine (pkidn_any 5 S2 bn n 1 y2 HR2.out (fun h => by have := HS2.out _ h; have := HBN.out; omega)).mono ?_
  rintro e y4 ⟨k4, rfl, hk4, hr4, f4⟩
  have HK4 := hid hk4; have HR4 := hid hr4; have HF4 := hid (HF2.out.trans f4 fun k e => .inr (by have e : k = bn := e; have := HBN.out; omega)); have HB4 := hid (HB2.out.fr f4 (fun e => by have e : bm = bn := e; have := HBN.out; have := HLM.out; omega))
  have HX4 := hid (HX2.out.fr f4 (fun e => by have e : w.heap.size = bn := e; have := HNX.out; omega))
  clear hk4 hr4 f4
  go_wp2_with fail
  refine (ptextOf_any _ _ _ _ y4 HK4.out).mono ?_
  rintro e y5 ⟨rfl, f5⟩
  have HR5 := hid (HR4.out.no f5); have HF5 := hid (HF4.out.trans f5 fun _ e => e.elim); have HB5 := hid (HB4.out.fr f5 id)
  have HX5 := hid (HX4.out.fr f5 id)
  clear f5
  obtain ⟨T6, hT6⟩ : ∃ x, sb (kidN n 1).body = x := ⟨_, rfl⟩
  rw [hT6]
  have HT6 := hid hT6
  clear hT6
  go_wp2_with fail
  refine (pkidn_any 5 S2 bn n 2 y5 HR5.out (fun h => by have := HS2.out _ h; have := HBN.out; omega)).mono ?_
  rintro e y7 ⟨k7, rfl, hk7, hr7, f7⟩
  have HK7 := hid hk7; have HR7 := hid hr7; have HF7 := hid (HF5.out.trans f7 fun k e => .inr (by have e : k = bn := e; have := HBN.out; omega)); have HB7 := hid (HB5.out.fr f7 (fun e => by have e : bm = bn := e; have := HBN.out; have := HLM.out; omega))
  have HX7 := hid (HX5.out.fr f7 (fun e => by have e : w.heap.size = bn := e; have := HNX.out; omega))
  clear hk7 hr7 f7
  go_wp2_with fail
  refine (ptextOf_any _ _ _ _ y7 HK7.out).mono ?_
  rintro e y8 ⟨rfl, f8⟩
  have HR8 := hid (HR7.out.no f8); have HF8 := hid (HF7.out.trans f8 fun _ e => e.elim); have HB8 := hid (HB7.out.fr f8 id)
  have HX8 := hid (HX7.out.fr f8 id)
  clear f8
  obtain ⟨T9, hT9⟩ : ∃ x, sb (kidN n 2).body = x := ⟨_, rfl⟩
  rw [hT9]
  have HT9 := hid hT9
  clear hT9
  go_wp2_with fail
  refine (pkidn_any 5 S2 bn n 3 y8 HR8.out (fun h => by have := HS2.out _ h; have := HBN.out; omega)).mono ?_
  rintro e y10 ⟨k10, rfl, hk10, hr10, f10⟩
  have HK10 := hid hk10; have HR10 := hid hr10; have HF10 := hid (HF8.out.trans f10 fun k e => .inr (by have e : k = bn := e; have := HBN.out; omega)); have HB10 := hid (HB8.out.fr f10 (fun e => by have e : bm = bn := e; have := HBN.out; have := HLM.out; omega))
  have HX10 := hid (HX8.out.fr f10 (fun e => by have e : w.heap.size = bn := e; have := HNX.out; omega))
  clear hk10 hr10 f10
  go_wp2_with fail
  refine (ptextOf_any _ _ _ _ y10 HK10.out).mono ?_
  rintro e y11 ⟨rfl, f11⟩
  have HR11 := hid (HR10.out.no f11); have HF11 := hid (HF10.out.trans f11 fun _ e => e.elim); have HB11 := hid (HB10.out.fr f11 id)
  have HX11 := hid (HX10.out.fr f11 id)
  clear f11
  obtain ⟨T12, hT12⟩ : ∃ x, sb (kidN n 3).body = x := ⟨_, rfl⟩
  rw [hT12]
  have HT12 := hid hT12
  clear hT12
  go_wp2_with (first
    | ((with_reducible refine K.atO (.store 3 _ _) ?_); (fail_if_success (have := HU0)); refine wpL_setV rfl _ _ _ rfl bm 27 (.int .i64 N3) rfl rfl rfl rfl _ _ HB11.out (by simp) infoI0 ?_; intro s_0 HY0 FU0 HW0; have HU0 := HY0)
    | ((with_reducible refine K.atO (.store 9 _ _) ?_); (fail_if_success (have := HU1)); (have := HU0); refine wpL_setV rfl _ _ _ rfl bm 28 (.string T6) rfl rfl rfl rfl _ _ HU0.out (by simp) infoS ?_; intro s_1 HY1 FU1 HW1; have HU1 := HY1)
    | ((with_reducible refine K.atO (.store 9 _ _) ?_); (fail_if_success (have := HU2)); (have := HU1); refine wpL_setV rfl _ _ _ rfl bm 29 (.string T9) rfl rfl rfl rfl _ _ HU1.out (by simp) infoS ?_; intro s_2 HY2 FU2 HW2; have HU2 := HY2)
    | ((with_reducible refine K.atO (.store 9 _ _) ?_); (fail_if_success (have := HU3)); (have := HU2); refine wpL_setV rfl _ _ _ rfl bm 3 (.string T12) rfl rfl rfl rfl _ _ HU2.out (by simp) infoS ?_; intro s_3 HY3 FU3 HW3; have HU3 := HY3; refine Hid.out ?_)
    | fail)
  have hs13 : Fr (fun k => k = bm) y11 s_3 := (((FU0.out.trans' FU1.out).trans' FU2.out).trans' FU3.out)
  have HF13 := hid (HF11.out.trans' hs13); have HB13 := HU3
  have HR13 := hid (HR11.out.fr hs13 (fun i hi _ e => by have := HS2.out _ hi; have e : i = bm := e; omega) (fun e => by have e : bn = bm := e; have := HBN.out; have := HLM.out; omega))
  have HX13 := hid (HX11.out.fr hs13 (fun e => by have e : w.heap.size = bm := e; have := HLM.out; omega))
  clear hs13 HY0 FU0 HW0 HY1 FU1 HW1 HY2 FU2 HW2 HY3 FU3 HW3
  refine hid ?_
  go_wp2_with fail
  go_end0
  refine ⟨rfl, .slice none 0 0, .slice none 0 0, .slice none 0 0, .slice none 0 0, .slice none 0 0, ?_, ⟨⟨HID.out, ⟨by have := HOT.out; show (-9223372036854775808 : Int) ≤ 101; omega, by have := HOT.out; show (101 : Int) ≤ _; omega⟩, i64z, i64z, i64z, i64z, i64z, i64z, val_i64 _⟩, ⟨kid_szN HD.out 3, (Nat.zero_le _), (Nat.zero_le _), (Nat.zero_le _), (Nat.zero_le _), (Nat.zero_le _), kid_szN HD.out 1, kid_szN HD.out 2⟩, ⟨_, _, rfl, i64z, (Nat.zero_le _), (Nat.zero_le _), (Nat.zero_le _), (Nat.zero_le _), tx_none _ _, ⟨none, 0, rfl, Nat.le_refl _, by show (0 : Nat) ≤ _; omega, .inl rfl⟩⟩, tx_none _ _, ⟨none, 0, rfl, Nat.le_refl _, by show (0 : Nat) ≤ _; omega, .inl rfl⟩, ⟨none, 0, rfl, Nat.le_refl _, by show (0 : Nat) ≤ _; omega, .inl rfl⟩⟩, HF13.out⟩
  have h := HB13.out
  rw [← HN3.out, ← HT6.out, ← HT9.out, ← HT12.out] at h
  exact h
set_option maxHeartbeats 16000000 in
theorem pro_103 (S : Nat → Prop) (bm : Nat) (mi : Int) (n : Nd) (cs : List Value) (w : World) (hn : NdAt 7 S w n cs) (hS : ¬ S bm) (hmi : I64 mi) (ho : okF 7 n) (hot : I64 (103)) (hB : Blk w bm 29 [.int .i64 mi, .int .i64 103, .int .i64 0, .string ⟨#[]⟩, .string ⟨#[]⟩, .int .i64 0, .int .i64 0, .int .i64 0, .int .i64 0, .bool false, .int .i64 0, .slice none 0 0, .string ⟨#[]⟩, .string ⟨#[]⟩, .string ⟨#[]⟩, .slice none 0 0, .string ⟨#[]⟩, .slice none 0 0, .slice none 0 0, .slice none 0 0, .string ⟨#[]⟩, .bool false, .bool false, .string ⟨#[]⟩, .string ⟨#[]⟩, .string ⟨#[]⟩, .int .i64 0, .int .i64 0, .string ⟨#[]⟩, .string ⟨#[]⟩])  :
    Calls Try.prog 31 #[.pointer (some ⟨bm, 0, none⟩), .agg cs.toArray] w (ReadOp bm ({ msg0 mi 103 with code := valN (kidN n 0), matched := (kidN n 1).body, text := (kidN n 2).body, name := (kidN n 3).body }) w) := by
  obtain ⟨S2, hS2⟩ : ∃ S2 : Nat → Prop, S2 = fun k => S k ∧ k < w.heap.size := ⟨_, rfl⟩
  have HS2 : Hid (∀ k, S2 k → k < w.heap.size ∧ k ≠ bm) := hid (fun k hk => by rw [hS2] at hk; exact ⟨hk.2, fun e => hS (e ▸ hk.1)⟩)
  have HD : Hid (NdAt 7 S2 w n cs) := hid (nd_two hn (fun k hk h => by rw [hS2]; exact ⟨h, hk⟩))
  have HID := hid hmi; have HOK := hid ho; have HOT := hid hot; have HB0 := hid hB; have HLM := hid hB.lt
  have k1 : w.cell? ⟨bm, 1, none⟩ = some (.int .i64 103) := hB.cell 1
  obtain ⟨a, sc, hcs, -, -, -⟩ := hn.head
  clear hn hS hmi ho hot hB hS2
  subst hcs
  obtain ⟨bs, hbs⟩ : ∃ b, sb n.body = b := ⟨_, rfl⟩
  obtain ⟨tg, htg⟩ : ∃ t, n.tag = t := ⟨_, rfl⟩
  obtain ⟨kl, hkl⟩ : ∃ k, n.kids.length = k := ⟨_, rfl⟩
  rw [hbs, htg, hkl] at HD ⊢
  have HBS := hid hbs; have HKL := hid hkl
  clear hbs htg hkl
  go_enter Try.func31, Try.ntmps31
  go_wp2_with (first
    | ((with_reducible refine K.atO (.box 44 _) ?_); refine wpL_box rfl _ _ rfl _ rfl [.int .i64 tg, .string bs, .slice a kl sc] rfl ?_; intro w1 HB1 F1 HS1)
    | ((with_reducible refine K.atO (.load 44 _) ?_); refine wpL_load rfl _ _ rfl w.heap.size 0 rfl [.int .i64 tg, .string bs, .slice a kl sc] _ (HB1.out.range 0 _ rfl) rfl rfl infoN ?_)
    | fail)
  refine (pchildren_any 6 S2 n [.int .i64 tg, .string bs, .slice a kl sc] w1 (HD.out.no F1.out)).mono ?_
  rintro e w3 ⟨bn, rfl, hbn, hr, f3⟩
  have HBN : Hid (w.heap.size ≤ bn) := hid (Nat.le_trans F1.out.size hbn)
  have HNX : Hid (w.heap.size < bn) := hid (by have := HS1.out; omega)
  have HR0 := hid hr.start; have HF3 : Hid (Fr (fun k => k = bm) w w3) := hid ((F1.out.trans' f3).mono fun _ e => e.elim)
  have HBm := hid ((HB0.out.fr F1.out (fun e => e)).fr f3 (fun e => e)); have HBx := hid (HB1.out.fr f3 (fun e => e))
  have kop : w3.cell? ⟨bm, 1, none⟩ = some (.int .i64 103) := HBm.out.cell 1
  clear hbn hr f3 HB1 F1 HS1 HB0 k1
  go_wp2_with fail
  clear kop
  refine (pkidn_any 5 S2 bn n 0 w3 HR0.out (fun h => by have := HS2.out _ h; have := HBN.out; omega)).mono ?_
  rintro e y1 ⟨k1, rfl, hk1, hr1, f1⟩
  have HK1 := hid hk1; have HR1 := hid hr1; have HF1 := hid (HF3.out.trans f1 fun k e => .inr (by have e : k = bn := e; have := HBN.out; omega)); have HB1 := hid (HBm.out.fr f1 (fun e => by have e : bm = bn := e; have := HBN.out; have := HLM.out; omega))
  have HX1 := hid (HBx.out.fr f1 (fun e => by have e : w.heap.size = bn := e; have := HNX.out; omega))
  clear hk1 hr1 f1
  go_wp2_with fail
  refine (pnumberOf_any _ _ _ _ y1 HK1.out).mono ?_
  rintro e y2 ⟨rfl, f2⟩
  have HR2 := hid (HR1.out.no f2); have HF2 := hid (HF1.out.trans f2 fun _ e => e.elim); have HB2 := hid (HB1.out.fr f2 id)
  have HX2 := hid (HX1.out.fr f2 id)
  clear f2
  obtain ⟨N3, hN3⟩ : ∃ x, valN (kidN n 0) = x := ⟨_, rfl⟩
  rw [hN3]
  have HN3 := hid hN3
  clear hN3
  go_wp2_with fail
  refine (pkidn_any 5 S2 bn n 1 y2 HR2.out (fun h => by have := HS2.out _ h; have := HBN.out; omega)).mono ?_
  rintro e y4 ⟨k4, rfl, hk4, hr4, f4⟩
  have HK4 := hid hk4; have HR4 := hid hr4; have HF4 := hid (HF2.out.trans f4 fun k e => .inr (by have e : k = bn := e; have := HBN.out; omega)); have HB4 := hid (HB2.out.fr f4 (fun e => by have e : bm = bn := e; have := HBN.out; have := HLM.out; omega))
  have HX4 := hid (HX2.out.fr f4 (fun e => by have e : w.heap.size = bn := e; have := HNX.out; omega))
  clear hk4 hr4 f4
  go_wp2_with fail
  refine (ptextOf_any _ _ _ _ y4 HK4.out).mono ?_
  rintro e y5 ⟨rfl, f5⟩
  have HR5 := hid (HR4.out.no f5); have HF5 := hid (HF4.out.trans f5 fun _ e => e.elim); have HB5 := hid (HB4.out.fr f5 id)
  have HX5 := hid (HX4.out.fr f5 id)
  clear f5
  obtain ⟨T6, hT6⟩ : ∃ x, sb (kidN n 1).body = x := ⟨_, rfl⟩
  rw [hT6]
  have HT6 := hid hT6
  clear hT6
  go_wp2_with fail
  refine (pkidn_any 5 S2 bn n 2 y5 HR5.out (fun h => by have := HS2.out _ h; have := HBN.out; omega)).mono ?_
  rintro e y7 ⟨k7, rfl, hk7, hr7, f7⟩
  have HK7 := hid hk7; have HR7 := hid hr7; have HF7 := hid (HF5.out.trans f7 fun k e => .inr (by have e : k = bn := e; have := HBN.out; omega)); have HB7 := hid (HB5.out.fr f7 (fun e => by have e : bm = bn := e; have := HBN.out; have := HLM.out; omega))
  have HX7 := hid (HX5.out.fr f7 (fun e => by have e : w.heap.size = bn := e; have := HNX.out; omega))
  clear hk7 hr7 f7
  go_wp2_with fail
  refine (ptextOf_any _ _ _ _ y7 HK7.out).mono ?_
  rintro e y8 ⟨rfl, f8⟩
  have HR8 := hid (HR7.out.no f8); have HF8 := hid (HF7.out.trans f8 fun _ e => e.elim); have HB8 := hid (HB7.out.fr f8 id)
  have HX8 := hid (HX7.out.fr f8 id)
  clear f8
  obtain ⟨T9, hT9⟩ : ∃ x, sb (kidN n 2).body = x := ⟨_, rfl⟩
  rw [hT9]
  have HT9 := hid hT9
  clear hT9
  go_wp2_with fail
  refine (pkidn_any 5 S2 bn n 3 y8 HR8.out (fun h => by have := HS2.out _ h; have := HBN.out; omega)).mono ?_
  rintro e y10 ⟨k10, rfl, hk10, hr10, f10⟩
  have HK10 := hid hk10; have HR10 := hid hr10; have HF10 := hid (HF8.out.trans f10 fun k e => .inr (by have e : k = bn := e; have := HBN.out; omega)); have HB10 := hid (HB8.out.fr f10 (fun e => by have e : bm = bn := e; have := HBN.out; have := HLM.out; omega))
  have HX10 := hid (HX8.out.fr f10 (fun e => by have e : w.heap.size = bn := e; have := HNX.out; omega))
  clear hk10 hr10 f10
  go_wp2_with fail
  refine (ptextOf_any _ _ _ _ y10 HK10.out).mono ?_
  rintro e y11 ⟨rfl, f11⟩
  have HR11 := hid (HR10.out.no f11); have HF11 := hid (HF10.out.trans f11 fun _ e => e.elim); have HB11 := hid (HB10.out.fr f11 id)
  have HX11 := hid (HX10.out.fr f11 id)
  clear f11
  obtain ⟨T12, hT12⟩ : ∃ x, sb (kidN n 3).body = x := ⟨_, rfl⟩
  rw [hT12]
  have HT12 := hid hT12
  clear hT12
  go_wp2_with (first
    | ((with_reducible refine K.atO (.store 3 _ _) ?_); (fail_if_success (have := HU0)); refine wpL_setV rfl _ _ _ rfl bm 27 (.int .i64 N3) rfl rfl rfl rfl _ _ HB11.out (by simp) infoI0 ?_; intro s_0 HY0 FU0 HW0; have HU0 := HY0)
    | ((with_reducible refine K.atO (.store 9 _ _) ?_); (fail_if_success (have := HU1)); (have := HU0); refine wpL_setV rfl _ _ _ rfl bm 28 (.string T6) rfl rfl rfl rfl _ _ HU0.out (by simp) infoS ?_; intro s_1 HY1 FU1 HW1; have HU1 := HY1)
    | ((with_reducible refine K.atO (.store 9 _ _) ?_); (fail_if_success (have := HU2)); (have := HU1); refine wpL_setV rfl _ _ _ rfl bm 29 (.string T9) rfl rfl rfl rfl _ _ HU1.out (by simp) infoS ?_; intro s_2 HY2 FU2 HW2; have HU2 := HY2)
    | ((with_reducible refine K.atO (.store 9 _ _) ?_); (fail_if_success (have := HU3)); (have := HU2); refine wpL_setV rfl _ _ _ rfl bm 3 (.string T12) rfl rfl rfl rfl _ _ HU2.out (by simp) infoS ?_; intro s_3 HY3 FU3 HW3; have HU3 := HY3; refine Hid.out ?_)
    | fail)
  have hs13 : Fr (fun k => k = bm) y11 s_3 := (((FU0.out.trans' FU1.out).trans' FU2.out).trans' FU3.out)
  have HF13 := hid (HF11.out.trans' hs13); have HB13 := HU3
  have HR13 := hid (HR11.out.fr hs13 (fun i hi _ e => by have := HS2.out _ hi; have e : i = bm := e; omega) (fun e => by have e : bn = bm := e; have := HBN.out; have := HLM.out; omega))
  have HX13 := hid (HX11.out.fr hs13 (fun e => by have e : w.heap.size = bm := e; have := HLM.out; omega))
  clear hs13 HY0 FU0 HW0 HY1 FU1 HW1 HY2 FU2 HW2 HY3 FU3 HW3
  refine hid ?_
  go_wp2_with fail
  go_end0
  refine ⟨rfl, .slice none 0 0, .slice none 0 0, .slice none 0 0, .slice none 0 0, .slice none 0 0, ?_, ⟨⟨HID.out, ⟨by have := HOT.out; show (-9223372036854775808 : Int) ≤ 103; omega, by have := HOT.out; show (103 : Int) ≤ _; omega⟩, i64z, i64z, i64z, i64z, i64z, i64z, val_i64 _⟩, ⟨kid_szN HD.out 3, (Nat.zero_le _), (Nat.zero_le _), (Nat.zero_le _), (Nat.zero_le _), (Nat.zero_le _), kid_szN HD.out 1, kid_szN HD.out 2⟩, ⟨_, _, rfl, i64z, (Nat.zero_le _), (Nat.zero_le _), (Nat.zero_le _), (Nat.zero_le _), tx_none _ _, ⟨none, 0, rfl, Nat.le_refl _, by show (0 : Nat) ≤ _; omega, .inl rfl⟩⟩, tx_none _ _, ⟨none, 0, rfl, Nat.le_refl _, by show (0 : Nat) ≤ _; omega, .inl rfl⟩, ⟨none, 0, rfl, Nat.le_refl _, by show (0 : Nat) ≤ _; omega, .inl rfl⟩⟩, HF13.out⟩
  have h := HB13.out
  rw [← HN3.out, ← HT6.out, ← HT9.out, ← HT12.out] at h
  exact h
set_option maxHeartbeats 16000000 in
theorem pro_105 (S : Nat → Prop) (bm : Nat) (mi : Int) (n : Nd) (cs : List Value) (w : World) (hn : NdAt 7 S w n cs) (hS : ¬ S bm) (hmi : I64 mi) (ho : okF 7 n) (hot : I64 (105)) (hB : Blk w bm 29 [.int .i64 mi, .int .i64 105, .int .i64 0, .string ⟨#[]⟩, .string ⟨#[]⟩, .int .i64 0, .int .i64 0, .int .i64 0, .int .i64 0, .bool false, .int .i64 0, .slice none 0 0, .string ⟨#[]⟩, .string ⟨#[]⟩, .string ⟨#[]⟩, .slice none 0 0, .string ⟨#[]⟩, .slice none 0 0, .slice none 0 0, .slice none 0 0, .string ⟨#[]⟩, .bool false, .bool false, .string ⟨#[]⟩, .string ⟨#[]⟩, .string ⟨#[]⟩, .int .i64 0, .int .i64 0, .string ⟨#[]⟩, .string ⟨#[]⟩])  :
    Calls Try.prog 31 #[.pointer (some ⟨bm, 0, none⟩), .agg cs.toArray] w (ReadOp bm ({ msg0 mi 105 with code := valN (kidN n 0), matched := (kidN n 1).body, text := (kidN n 2).body, name := (kidN n 3).body }) w) := by
  obtain ⟨S2, hS2⟩ : ∃ S2 : Nat → Prop, S2 = fun k => S k ∧ k < w.heap.size := ⟨_, rfl⟩
  have HS2 : Hid (∀ k, S2 k → k < w.heap.size ∧ k ≠ bm) := hid (fun k hk => by rw [hS2] at hk; exact ⟨hk.2, fun e => hS (e ▸ hk.1)⟩)
  have HD : Hid (NdAt 7 S2 w n cs) := hid (nd_two hn (fun k hk h => by rw [hS2]; exact ⟨h, hk⟩))
  have HID := hid hmi; have HOK := hid ho; have HOT := hid hot; have HB0 := hid hB; have HLM := hid hB.lt
  have k1 : w.cell? ⟨bm, 1, none⟩ = some (.int .i64 105) := hB.cell 1
  obtain ⟨a, sc, hcs, -, -, -⟩ := hn.head
  clear hn hS hmi ho hot hB hS2
  subst hcs
  obtain ⟨bs, hbs⟩ : ∃ b, sb n.body = b := ⟨_, rfl⟩
  obtain ⟨tg, htg⟩ : ∃ t, n.tag = t := ⟨_, rfl⟩
  obtain ⟨kl, hkl⟩ : ∃ k, n.kids.length = k := ⟨_, rfl⟩
  rw [hbs, htg, hkl] at HD ⊢
  have HBS := hid hbs; have HKL := hid hkl
  clear hbs htg hkl
  go_enter Try.func31, Try.ntmps31
  go_wp2_with (first
    | ((with_reducible refine K.atO (.box 44 _) ?_); refine wpL_box rfl _ _ rfl _ rfl [.int .i64 tg, .string bs, .slice a kl sc] rfl ?_; intro w1 HB1 F1 HS1)
    | ((with_reducible refine K.atO (.load 44 _) ?_); refine wpL_load rfl _ _ rfl w.heap.size 0 rfl [.int .i64 tg, .string bs, .slice a kl sc] _ (HB1.out.range 0 _ rfl) rfl rfl infoN ?_)
    | fail)
  refine (pchildren_any 6 S2 n [.int .i64 tg, .string bs, .slice a kl sc] w1 (HD.out.no F1.out)).mono ?_
  rintro e w3 ⟨bn, rfl, hbn, hr, f3⟩
  have HBN : Hid (w.heap.size ≤ bn) := hid (Nat.le_trans F1.out.size hbn)
  have HNX : Hid (w.heap.size < bn) := hid (by have := HS1.out; omega)
  have HR0 := hid hr.start; have HF3 : Hid (Fr (fun k => k = bm) w w3) := hid ((F1.out.trans' f3).mono fun _ e => e.elim)
  have HBm := hid ((HB0.out.fr F1.out (fun e => e)).fr f3 (fun e => e)); have HBx := hid (HB1.out.fr f3 (fun e => e))
  have kop : w3.cell? ⟨bm, 1, none⟩ = some (.int .i64 105) := HBm.out.cell 1
  clear hbn hr f3 HB1 F1 HS1 HB0 k1
  go_wp2_with fail
  clear kop
  refine (pkidn_any 5 S2 bn n 0 w3 HR0.out (fun h => by have := HS2.out _ h; have := HBN.out; omega)).mono ?_
  rintro e y1 ⟨k1, rfl, hk1, hr1, f1⟩
  have HK1 := hid hk1; have HR1 := hid hr1; have HF1 := hid (HF3.out.trans f1 fun k e => .inr (by have e : k = bn := e; have := HBN.out; omega)); have HB1 := hid (HBm.out.fr f1 (fun e => by have e : bm = bn := e; have := HBN.out; have := HLM.out; omega))
  have HX1 := hid (HBx.out.fr f1 (fun e => by have e : w.heap.size = bn := e; have := HNX.out; omega))
  clear hk1 hr1 f1
  go_wp2_with fail
  refine (pnumberOf_any _ _ _ _ y1 HK1.out).mono ?_
  rintro e y2 ⟨rfl, f2⟩
  have HR2 := hid (HR1.out.no f2); have HF2 := hid (HF1.out.trans f2 fun _ e => e.elim); have HB2 := hid (HB1.out.fr f2 id)
  have HX2 := hid (HX1.out.fr f2 id)
  clear f2
  obtain ⟨N3, hN3⟩ : ∃ x, valN (kidN n 0) = x := ⟨_, rfl⟩
  rw [hN3]
  have HN3 := hid hN3
  clear hN3
  go_wp2_with fail
  refine (pkidn_any 5 S2 bn n 1 y2 HR2.out (fun h => by have := HS2.out _ h; have := HBN.out; omega)).mono ?_
  rintro e y4 ⟨k4, rfl, hk4, hr4, f4⟩
  have HK4 := hid hk4; have HR4 := hid hr4; have HF4 := hid (HF2.out.trans f4 fun k e => .inr (by have e : k = bn := e; have := HBN.out; omega)); have HB4 := hid (HB2.out.fr f4 (fun e => by have e : bm = bn := e; have := HBN.out; have := HLM.out; omega))
  have HX4 := hid (HX2.out.fr f4 (fun e => by have e : w.heap.size = bn := e; have := HNX.out; omega))
  clear hk4 hr4 f4
  go_wp2_with fail
  refine (ptextOf_any _ _ _ _ y4 HK4.out).mono ?_
  rintro e y5 ⟨rfl, f5⟩
  have HR5 := hid (HR4.out.no f5); have HF5 := hid (HF4.out.trans f5 fun _ e => e.elim); have HB5 := hid (HB4.out.fr f5 id)
  have HX5 := hid (HX4.out.fr f5 id)
  clear f5
  obtain ⟨T6, hT6⟩ : ∃ x, sb (kidN n 1).body = x := ⟨_, rfl⟩
  rw [hT6]
  have HT6 := hid hT6
  clear hT6
  go_wp2_with fail
  refine (pkidn_any 5 S2 bn n 2 y5 HR5.out (fun h => by have := HS2.out _ h; have := HBN.out; omega)).mono ?_
  rintro e y7 ⟨k7, rfl, hk7, hr7, f7⟩
  have HK7 := hid hk7; have HR7 := hid hr7; have HF7 := hid (HF5.out.trans f7 fun k e => .inr (by have e : k = bn := e; have := HBN.out; omega)); have HB7 := hid (HB5.out.fr f7 (fun e => by have e : bm = bn := e; have := HBN.out; have := HLM.out; omega))
  have HX7 := hid (HX5.out.fr f7 (fun e => by have e : w.heap.size = bn := e; have := HNX.out; omega))
  clear hk7 hr7 f7
  go_wp2_with fail
  refine (ptextOf_any _ _ _ _ y7 HK7.out).mono ?_
  rintro e y8 ⟨rfl, f8⟩
  have HR8 := hid (HR7.out.no f8); have HF8 := hid (HF7.out.trans f8 fun _ e => e.elim); have HB8 := hid (HB7.out.fr f8 id)
  have HX8 := hid (HX7.out.fr f8 id)
  clear f8
  obtain ⟨T9, hT9⟩ : ∃ x, sb (kidN n 2).body = x := ⟨_, rfl⟩
  rw [hT9]
  have HT9 := hid hT9
  clear hT9
  go_wp2_with fail
  refine (pkidn_any 5 S2 bn n 3 y8 HR8.out (fun h => by have := HS2.out _ h; have := HBN.out; omega)).mono ?_
  rintro e y10 ⟨k10, rfl, hk10, hr10, f10⟩
  have HK10 := hid hk10; have HR10 := hid hr10; have HF10 := hid (HF8.out.trans f10 fun k e => .inr (by have e : k = bn := e; have := HBN.out; omega)); have HB10 := hid (HB8.out.fr f10 (fun e => by have e : bm = bn := e; have := HBN.out; have := HLM.out; omega))
  have HX10 := hid (HX8.out.fr f10 (fun e => by have e : w.heap.size = bn := e; have := HNX.out; omega))
  clear hk10 hr10 f10
  go_wp2_with fail
  refine (ptextOf_any _ _ _ _ y10 HK10.out).mono ?_
  rintro e y11 ⟨rfl, f11⟩
  have HR11 := hid (HR10.out.no f11); have HF11 := hid (HF10.out.trans f11 fun _ e => e.elim); have HB11 := hid (HB10.out.fr f11 id)
  have HX11 := hid (HX10.out.fr f11 id)
  clear f11
  obtain ⟨T12, hT12⟩ : ∃ x, sb (kidN n 3).body = x := ⟨_, rfl⟩
  rw [hT12]
  have HT12 := hid hT12
  clear hT12
  go_wp2_with (first
    | ((with_reducible refine K.atO (.store 3 _ _) ?_); (fail_if_success (have := HU0)); refine wpL_setV rfl _ _ _ rfl bm 27 (.int .i64 N3) rfl rfl rfl rfl _ _ HB11.out (by simp) infoI0 ?_; intro s_0 HY0 FU0 HW0; have HU0 := HY0)
    | ((with_reducible refine K.atO (.store 9 _ _) ?_); (fail_if_success (have := HU1)); (have := HU0); refine wpL_setV rfl _ _ _ rfl bm 28 (.string T6) rfl rfl rfl rfl _ _ HU0.out (by simp) infoS ?_; intro s_1 HY1 FU1 HW1; have HU1 := HY1)
    | ((with_reducible refine K.atO (.store 9 _ _) ?_); (fail_if_success (have := HU2)); (have := HU1); refine wpL_setV rfl _ _ _ rfl bm 29 (.string T9) rfl rfl rfl rfl _ _ HU1.out (by simp) infoS ?_; intro s_2 HY2 FU2 HW2; have HU2 := HY2)
    | ((with_reducible refine K.atO (.store 9 _ _) ?_); (fail_if_success (have := HU3)); (have := HU2); refine wpL_setV rfl _ _ _ rfl bm 3 (.string T12) rfl rfl rfl rfl _ _ HU2.out (by simp) infoS ?_; intro s_3 HY3 FU3 HW3; have HU3 := HY3; refine Hid.out ?_)
    | fail)
  have hs13 : Fr (fun k => k = bm) y11 s_3 := (((FU0.out.trans' FU1.out).trans' FU2.out).trans' FU3.out)
  have HF13 := hid (HF11.out.trans' hs13); have HB13 := HU3
  have HR13 := hid (HR11.out.fr hs13 (fun i hi _ e => by have := HS2.out _ hi; have e : i = bm := e; omega) (fun e => by have e : bn = bm := e; have := HBN.out; have := HLM.out; omega))
  have HX13 := hid (HX11.out.fr hs13 (fun e => by have e : w.heap.size = bm := e; have := HLM.out; omega))
  clear hs13 HY0 FU0 HW0 HY1 FU1 HW1 HY2 FU2 HW2 HY3 FU3 HW3
  refine hid ?_
  go_wp2_with fail
  go_end0
  refine ⟨rfl, .slice none 0 0, .slice none 0 0, .slice none 0 0, .slice none 0 0, .slice none 0 0, ?_, ⟨⟨HID.out, ⟨by have := HOT.out; show (-9223372036854775808 : Int) ≤ 105; omega, by have := HOT.out; show (105 : Int) ≤ _; omega⟩, i64z, i64z, i64z, i64z, i64z, i64z, val_i64 _⟩, ⟨kid_szN HD.out 3, (Nat.zero_le _), (Nat.zero_le _), (Nat.zero_le _), (Nat.zero_le _), (Nat.zero_le _), kid_szN HD.out 1, kid_szN HD.out 2⟩, ⟨_, _, rfl, i64z, (Nat.zero_le _), (Nat.zero_le _), (Nat.zero_le _), (Nat.zero_le _), tx_none _ _, ⟨none, 0, rfl, Nat.le_refl _, by show (0 : Nat) ≤ _; omega, .inl rfl⟩⟩, tx_none _ _, ⟨none, 0, rfl, Nat.le_refl _, by show (0 : Nat) ≤ _; omega, .inl rfl⟩, ⟨none, 0, rfl, Nat.le_refl _, by show (0 : Nat) ≤ _; omega, .inl rfl⟩⟩, HF13.out⟩
  have h := HB13.out
  rw [← HN3.out, ← HT6.out, ← HT9.out, ← HT12.out] at h
  exact h
set_option maxHeartbeats 16000000 in
theorem pro_107 (S : Nat → Prop) (bm : Nat) (mi : Int) (n : Nd) (cs : List Value) (w : World) (hn : NdAt 7 S w n cs) (hS : ¬ S bm) (hmi : I64 mi) (ho : okF 7 n) (hot : I64 (107)) (hB : Blk w bm 29 [.int .i64 mi, .int .i64 107, .int .i64 0, .string ⟨#[]⟩, .string ⟨#[]⟩, .int .i64 0, .int .i64 0, .int .i64 0, .int .i64 0, .bool false, .int .i64 0, .slice none 0 0, .string ⟨#[]⟩, .string ⟨#[]⟩, .string ⟨#[]⟩, .slice none 0 0, .string ⟨#[]⟩, .slice none 0 0, .slice none 0 0, .slice none 0 0, .string ⟨#[]⟩, .bool false, .bool false, .string ⟨#[]⟩, .string ⟨#[]⟩, .string ⟨#[]⟩, .int .i64 0, .int .i64 0, .string ⟨#[]⟩, .string ⟨#[]⟩])  :
    Calls Try.prog 31 #[.pointer (some ⟨bm, 0, none⟩), .agg cs.toArray] w (ReadOp bm ({ msg0 mi 107 with code := valN (kidN n 0), matched := (kidN n 1).body, text := (kidN n 2).body, name := (kidN n 3).body }) w) := by
  obtain ⟨S2, hS2⟩ : ∃ S2 : Nat → Prop, S2 = fun k => S k ∧ k < w.heap.size := ⟨_, rfl⟩
  have HS2 : Hid (∀ k, S2 k → k < w.heap.size ∧ k ≠ bm) := hid (fun k hk => by rw [hS2] at hk; exact ⟨hk.2, fun e => hS (e ▸ hk.1)⟩)
  have HD : Hid (NdAt 7 S2 w n cs) := hid (nd_two hn (fun k hk h => by rw [hS2]; exact ⟨h, hk⟩))
  have HID := hid hmi; have HOK := hid ho; have HOT := hid hot; have HB0 := hid hB; have HLM := hid hB.lt
  have k1 : w.cell? ⟨bm, 1, none⟩ = some (.int .i64 107) := hB.cell 1
  obtain ⟨a, sc, hcs, -, -, -⟩ := hn.head
  clear hn hS hmi ho hot hB hS2
  subst hcs
  obtain ⟨bs, hbs⟩ : ∃ b, sb n.body = b := ⟨_, rfl⟩
  obtain ⟨tg, htg⟩ : ∃ t, n.tag = t := ⟨_, rfl⟩
  obtain ⟨kl, hkl⟩ : ∃ k, n.kids.length = k := ⟨_, rfl⟩
  rw [hbs, htg, hkl] at HD ⊢
  have HBS := hid hbs; have HKL := hid hkl
  clear hbs htg hkl
  go_enter Try.func31, Try.ntmps31
  go_wp2_with (first
    | ((with_reducible refine K.atO (.box 44 _) ?_); refine wpL_box rfl _ _ rfl _ rfl [.int .i64 tg, .string bs, .slice a kl sc] rfl ?_; intro w1 HB1 F1 HS1)
    | ((with_reducible refine K.atO (.load 44 _) ?_); refine wpL_load rfl _ _ rfl w.heap.size 0 rfl [.int .i64 tg, .string bs, .slice a kl sc] _ (HB1.out.range 0 _ rfl) rfl rfl infoN ?_)
    | fail)
  refine (pchildren_any 6 S2 n [.int .i64 tg, .string bs, .slice a kl sc] w1 (HD.out.no F1.out)).mono ?_
  rintro e w3 ⟨bn, rfl, hbn, hr, f3⟩
  have HBN : Hid (w.heap.size ≤ bn) := hid (Nat.le_trans F1.out.size hbn)
  have HNX : Hid (w.heap.size < bn) := hid (by have := HS1.out; omega)
  have HR0 := hid hr.start; have HF3 : Hid (Fr (fun k => k = bm) w w3) := hid ((F1.out.trans' f3).mono fun _ e => e.elim)
  have HBm := hid ((HB0.out.fr F1.out (fun e => e)).fr f3 (fun e => e)); have HBx := hid (HB1.out.fr f3 (fun e => e))
  have kop : w3.cell? ⟨bm, 1, none⟩ = some (.int .i64 107) := HBm.out.cell 1
  clear hbn hr f3 HB1 F1 HS1 HB0 k1
  go_wp2_with fail
  clear kop
  refine (pkidn_any 5 S2 bn n 0 w3 HR0.out (fun h => by have := HS2.out _ h; have := HBN.out; omega)).mono ?_
  rintro e y1 ⟨k1, rfl, hk1, hr1, f1⟩
  have HK1 := hid hk1; have HR1 := hid hr1; have HF1 := hid (HF3.out.trans f1 fun k e => .inr (by have e : k = bn := e; have := HBN.out; omega)); have HB1 := hid (HBm.out.fr f1 (fun e => by have e : bm = bn := e; have := HBN.out; have := HLM.out; omega))
  have HX1 := hid (HBx.out.fr f1 (fun e => by have e : w.heap.size = bn := e; have := HNX.out; omega))
  clear hk1 hr1 f1
  go_wp2_with fail
  refine (pnumberOf_any _ _ _ _ y1 HK1.out).mono ?_
  rintro e y2 ⟨rfl, f2⟩
  have HR2 := hid (HR1.out.no f2); have HF2 := hid (HF1.out.trans f2 fun _ e => e.elim); have HB2 := hid (HB1.out.fr f2 id)
  have HX2 := hid (HX1.out.fr f2 id)
  clear f2
  obtain ⟨N3, hN3⟩ : ∃ x, valN (kidN n 0) = x := ⟨_, rfl⟩
  rw [hN3]
  have HN3 := hid hN3
  clear hN3
  go_wp2_with fail
  refine (pkidn_any 5 S2 bn n 1 y2 HR2.out (fun h => by have := HS2.out _ h; have := HBN.out; omega)).mono ?_
  rintro e y4 ⟨k4, rfl, hk4, hr4, f4⟩
  have HK4 := hid hk4; have HR4 := hid hr4; have HF4 := hid (HF2.out.trans f4 fun k e => .inr (by have e : k = bn := e; have := HBN.out; omega)); have HB4 := hid (HB2.out.fr f4 (fun e => by have e : bm = bn := e; have := HBN.out; have := HLM.out; omega))
  have HX4 := hid (HX2.out.fr f4 (fun e => by have e : w.heap.size = bn := e; have := HNX.out; omega))
  clear hk4 hr4 f4
  go_wp2_with fail
  refine (ptextOf_any _ _ _ _ y4 HK4.out).mono ?_
  rintro e y5 ⟨rfl, f5⟩
  have HR5 := hid (HR4.out.no f5); have HF5 := hid (HF4.out.trans f5 fun _ e => e.elim); have HB5 := hid (HB4.out.fr f5 id)
  have HX5 := hid (HX4.out.fr f5 id)
  clear f5
  obtain ⟨T6, hT6⟩ : ∃ x, sb (kidN n 1).body = x := ⟨_, rfl⟩
  rw [hT6]
  have HT6 := hid hT6
  clear hT6
  go_wp2_with fail
  refine (pkidn_any 5 S2 bn n 2 y5 HR5.out (fun h => by have := HS2.out _ h; have := HBN.out; omega)).mono ?_
  rintro e y7 ⟨k7, rfl, hk7, hr7, f7⟩
  have HK7 := hid hk7; have HR7 := hid hr7; have HF7 := hid (HF5.out.trans f7 fun k e => .inr (by have e : k = bn := e; have := HBN.out; omega)); have HB7 := hid (HB5.out.fr f7 (fun e => by have e : bm = bn := e; have := HBN.out; have := HLM.out; omega))
  have HX7 := hid (HX5.out.fr f7 (fun e => by have e : w.heap.size = bn := e; have := HNX.out; omega))
  clear hk7 hr7 f7
  go_wp2_with fail
  refine (ptextOf_any _ _ _ _ y7 HK7.out).mono ?_
  rintro e y8 ⟨rfl, f8⟩
  have HR8 := hid (HR7.out.no f8); have HF8 := hid (HF7.out.trans f8 fun _ e => e.elim); have HB8 := hid (HB7.out.fr f8 id)
  have HX8 := hid (HX7.out.fr f8 id)
  clear f8
  obtain ⟨T9, hT9⟩ : ∃ x, sb (kidN n 2).body = x := ⟨_, rfl⟩
  rw [hT9]
  have HT9 := hid hT9
  clear hT9
  go_wp2_with fail
  refine (pkidn_any 5 S2 bn n 3 y8 HR8.out (fun h => by have := HS2.out _ h; have := HBN.out; omega)).mono ?_
  rintro e y10 ⟨k10, rfl, hk10, hr10, f10⟩
  have HK10 := hid hk10; have HR10 := hid hr10; have HF10 := hid (HF8.out.trans f10 fun k e => .inr (by have e : k = bn := e; have := HBN.out; omega)); have HB10 := hid (HB8.out.fr f10 (fun e => by have e : bm = bn := e; have := HBN.out; have := HLM.out; omega))
  have HX10 := hid (HX8.out.fr f10 (fun e => by have e : w.heap.size = bn := e; have := HNX.out; omega))
  clear hk10 hr10 f10
  go_wp2_with fail
  refine (ptextOf_any _ _ _ _ y10 HK10.out).mono ?_
  rintro e y11 ⟨rfl, f11⟩
  have HR11 := hid (HR10.out.no f11); have HF11 := hid (HF10.out.trans f11 fun _ e => e.elim); have HB11 := hid (HB10.out.fr f11 id)
  have HX11 := hid (HX10.out.fr f11 id)
  clear f11
  obtain ⟨T12, hT12⟩ : ∃ x, sb (kidN n 3).body = x := ⟨_, rfl⟩
  rw [hT12]
  have HT12 := hid hT12
  clear hT12
  go_wp2_with (first
    | ((with_reducible refine K.atO (.store 3 _ _) ?_); (fail_if_success (have := HU0)); refine wpL_setV rfl _ _ _ rfl bm 27 (.int .i64 N3) rfl rfl rfl rfl _ _ HB11.out (by simp) infoI0 ?_; intro s_0 HY0 FU0 HW0; have HU0 := HY0)
    | ((with_reducible refine K.atO (.store 9 _ _) ?_); (fail_if_success (have := HU1)); (have := HU0); refine wpL_setV rfl _ _ _ rfl bm 28 (.string T6) rfl rfl rfl rfl _ _ HU0.out (by simp) infoS ?_; intro s_1 HY1 FU1 HW1; have HU1 := HY1)
    | ((with_reducible refine K.atO (.store 9 _ _) ?_); (fail_if_success (have := HU2)); (have := HU1); refine wpL_setV rfl _ _ _ rfl bm 29 (.string T9) rfl rfl rfl rfl _ _ HU1.out (by simp) infoS ?_; intro s_2 HY2 FU2 HW2; have HU2 := HY2)
    | ((with_reducible refine K.atO (.store 9 _ _) ?_); (fail_if_success (have := HU3)); (have := HU2); refine wpL_setV rfl _ _ _ rfl bm 3 (.string T12) rfl rfl rfl rfl _ _ HU2.out (by simp) infoS ?_; intro s_3 HY3 FU3 HW3; have HU3 := HY3; refine Hid.out ?_)
    | fail)
  have hs13 : Fr (fun k => k = bm) y11 s_3 := (((FU0.out.trans' FU1.out).trans' FU2.out).trans' FU3.out)
  have HF13 := hid (HF11.out.trans' hs13); have HB13 := HU3
  have HR13 := hid (HR11.out.fr hs13 (fun i hi _ e => by have := HS2.out _ hi; have e : i = bm := e; omega) (fun e => by have e : bn = bm := e; have := HBN.out; have := HLM.out; omega))
  have HX13 := hid (HX11.out.fr hs13 (fun e => by have e : w.heap.size = bm := e; have := HLM.out; omega))
  clear hs13 HY0 FU0 HW0 HY1 FU1 HW1 HY2 FU2 HW2 HY3 FU3 HW3
  refine hid ?_
  go_wp2_with fail
  go_end0
  refine ⟨rfl, .slice none 0 0, .slice none 0 0, .slice none 0 0, .slice none 0 0, .slice none 0 0, ?_, ⟨⟨HID.out, ⟨by have := HOT.out; show (-9223372036854775808 : Int) ≤ 107; omega, by have := HOT.out; show (107 : Int) ≤ _; omega⟩, i64z, i64z, i64z, i64z, i64z, i64z, val_i64 _⟩, ⟨kid_szN HD.out 3, (Nat.zero_le _), (Nat.zero_le _), (Nat.zero_le _), (Nat.zero_le _), (Nat.zero_le _), kid_szN HD.out 1, kid_szN HD.out 2⟩, ⟨_, _, rfl, i64z, (Nat.zero_le _), (Nat.zero_le _), (Nat.zero_le _), (Nat.zero_le _), tx_none _ _, ⟨none, 0, rfl, Nat.le_refl _, by show (0 : Nat) ≤ _; omega, .inl rfl⟩⟩, tx_none _ _, ⟨none, 0, rfl, Nat.le_refl _, by show (0 : Nat) ≤ _; omega, .inl rfl⟩, ⟨none, 0, rfl, Nat.le_refl _, by show (0 : Nat) ≤ _; omega, .inl rfl⟩⟩, HF13.out⟩
  have h := HB13.out
  rw [← HN3.out, ← HT6.out, ← HT9.out, ← HT12.out] at h
  exact h
set_option maxHeartbeats 16000000 in
theorem pro_109 (S : Nat → Prop) (bm : Nat) (mi : Int) (n : Nd) (cs : List Value) (w : World) (hn : NdAt 7 S w n cs) (hS : ¬ S bm) (hmi : I64 mi) (ho : okF 7 n) (hot : I64 (109)) (hB : Blk w bm 29 [.int .i64 mi, .int .i64 109, .int .i64 0, .string ⟨#[]⟩, .string ⟨#[]⟩, .int .i64 0, .int .i64 0, .int .i64 0, .int .i64 0, .bool false, .int .i64 0, .slice none 0 0, .string ⟨#[]⟩, .string ⟨#[]⟩, .string ⟨#[]⟩, .slice none 0 0, .string ⟨#[]⟩, .slice none 0 0, .slice none 0 0, .slice none 0 0, .string ⟨#[]⟩, .bool false, .bool false, .string ⟨#[]⟩, .string ⟨#[]⟩, .string ⟨#[]⟩, .int .i64 0, .int .i64 0, .string ⟨#[]⟩, .string ⟨#[]⟩])  :
    Calls Try.prog 31 #[.pointer (some ⟨bm, 0, none⟩), .agg cs.toArray] w (ReadOp bm ({ msg0 mi 109 with code := valN (kidN n 0), matched := (kidN n 1).body, text := (kidN n 2).body, name := (kidN n 3).body }) w) := by
  obtain ⟨S2, hS2⟩ : ∃ S2 : Nat → Prop, S2 = fun k => S k ∧ k < w.heap.size := ⟨_, rfl⟩
  have HS2 : Hid (∀ k, S2 k → k < w.heap.size ∧ k ≠ bm) := hid (fun k hk => by rw [hS2] at hk; exact ⟨hk.2, fun e => hS (e ▸ hk.1)⟩)
  have HD : Hid (NdAt 7 S2 w n cs) := hid (nd_two hn (fun k hk h => by rw [hS2]; exact ⟨h, hk⟩))
  have HID := hid hmi; have HOK := hid ho; have HOT := hid hot; have HB0 := hid hB; have HLM := hid hB.lt
  have k1 : w.cell? ⟨bm, 1, none⟩ = some (.int .i64 109) := hB.cell 1
  obtain ⟨a, sc, hcs, -, -, -⟩ := hn.head
  clear hn hS hmi ho hot hB hS2
  subst hcs
  obtain ⟨bs, hbs⟩ : ∃ b, sb n.body = b := ⟨_, rfl⟩
  obtain ⟨tg, htg⟩ : ∃ t, n.tag = t := ⟨_, rfl⟩
  obtain ⟨kl, hkl⟩ : ∃ k, n.kids.length = k := ⟨_, rfl⟩
  rw [hbs, htg, hkl] at HD ⊢
  have HBS := hid hbs; have HKL := hid hkl
  clear hbs htg hkl
  go_enter Try.func31, Try.ntmps31
  go_wp2_with (first
    | ((with_reducible refine K.atO (.box 44 _) ?_); refine wpL_box rfl _ _ rfl _ rfl [.int .i64 tg, .string bs, .slice a kl sc] rfl ?_; intro w1 HB1 F1 HS1)
    | ((with_reducible refine K.atO (.load 44 _) ?_); refine wpL_load rfl _ _ rfl w.heap.size 0 rfl [.int .i64 tg, .string bs, .slice a kl sc] _ (HB1.out.range 0 _ rfl) rfl rfl infoN ?_)
    | fail)
  refine (pchildren_any 6 S2 n [.int .i64 tg, .string bs, .slice a kl sc] w1 (HD.out.no F1.out)).mono ?_
  rintro e w3 ⟨bn, rfl, hbn, hr, f3⟩
  have HBN : Hid (w.heap.size ≤ bn) := hid (Nat.le_trans F1.out.size hbn)
  have HNX : Hid (w.heap.size < bn) := hid (by have := HS1.out; omega)
  have HR0 := hid hr.start; have HF3 : Hid (Fr (fun k => k = bm) w w3) := hid ((F1.out.trans' f3).mono fun _ e => e.elim)
  have HBm := hid ((HB0.out.fr F1.out (fun e => e)).fr f3 (fun e => e)); have HBx := hid (HB1.out.fr f3 (fun e => e))
  have kop : w3.cell? ⟨bm, 1, none⟩ = some (.int .i64 109) := HBm.out.cell 1
  clear hbn hr f3 HB1 F1 HS1 HB0 k1
  go_wp2_with fail
  clear kop
  refine (pkidn_any 5 S2 bn n 0 w3 HR0.out (fun h => by have := HS2.out _ h; have := HBN.out; omega)).mono ?_
  rintro e y1 ⟨k1, rfl, hk1, hr1, f1⟩
  have HK1 := hid hk1; have HR1 := hid hr1; have HF1 := hid (HF3.out.trans f1 fun k e => .inr (by have e : k = bn := e; have := HBN.out; omega)); have HB1 := hid (HBm.out.fr f1 (fun e => by have e : bm = bn := e; have := HBN.out; have := HLM.out; omega))
  have HX1 := hid (HBx.out.fr f1 (fun e => by have e : w.heap.size = bn := e; have := HNX.out; omega))
  clear hk1 hr1 f1
  go_wp2_with fail
  refine (pnumberOf_any _ _ _ _ y1 HK1.out).mono ?_
  rintro e y2 ⟨rfl, f2⟩
  have HR2 := hid (HR1.out.no f2); have HF2 := hid (HF1.out.trans f2 fun _ e => e.elim); have HB2 := hid (HB1.out.fr f2 id)
  have HX2 := hid (HX1.out.fr f2 id)
  clear f2
  obtain ⟨N3, hN3⟩ : ∃ x, valN (kidN n 0) = x := ⟨_, rfl⟩
  rw [hN3]
  have HN3 := hid hN3
  clear hN3
  go_wp2_with fail
  refine (pkidn_any 5 S2 bn n 1 y2 HR2.out (fun h => by have := HS2.out _ h; have := HBN.out; omega)).mono ?_
  rintro e y4 ⟨k4, rfl, hk4, hr4, f4⟩
  have HK4 := hid hk4; have HR4 := hid hr4; have HF4 := hid (HF2.out.trans f4 fun k e => .inr (by have e : k = bn := e; have := HBN.out; omega)); have HB4 := hid (HB2.out.fr f4 (fun e => by have e : bm = bn := e; have := HBN.out; have := HLM.out; omega))
  have HX4 := hid (HX2.out.fr f4 (fun e => by have e : w.heap.size = bn := e; have := HNX.out; omega))
  clear hk4 hr4 f4
  go_wp2_with fail
  refine (ptextOf_any _ _ _ _ y4 HK4.out).mono ?_
  rintro e y5 ⟨rfl, f5⟩
  have HR5 := hid (HR4.out.no f5); have HF5 := hid (HF4.out.trans f5 fun _ e => e.elim); have HB5 := hid (HB4.out.fr f5 id)
  have HX5 := hid (HX4.out.fr f5 id)
  clear f5
  obtain ⟨T6, hT6⟩ : ∃ x, sb (kidN n 1).body = x := ⟨_, rfl⟩
  rw [hT6]
  have HT6 := hid hT6
  clear hT6
  go_wp2_with fail
  refine (pkidn_any 5 S2 bn n 2 y5 HR5.out (fun h => by have := HS2.out _ h; have := HBN.out; omega)).mono ?_
  rintro e y7 ⟨k7, rfl, hk7, hr7, f7⟩
  have HK7 := hid hk7; have HR7 := hid hr7; have HF7 := hid (HF5.out.trans f7 fun k e => .inr (by have e : k = bn := e; have := HBN.out; omega)); have HB7 := hid (HB5.out.fr f7 (fun e => by have e : bm = bn := e; have := HBN.out; have := HLM.out; omega))
  have HX7 := hid (HX5.out.fr f7 (fun e => by have e : w.heap.size = bn := e; have := HNX.out; omega))
  clear hk7 hr7 f7
  go_wp2_with fail
  refine (ptextOf_any _ _ _ _ y7 HK7.out).mono ?_
  rintro e y8 ⟨rfl, f8⟩
  have HR8 := hid (HR7.out.no f8); have HF8 := hid (HF7.out.trans f8 fun _ e => e.elim); have HB8 := hid (HB7.out.fr f8 id)
  have HX8 := hid (HX7.out.fr f8 id)
  clear f8
  obtain ⟨T9, hT9⟩ : ∃ x, sb (kidN n 2).body = x := ⟨_, rfl⟩
  rw [hT9]
  have HT9 := hid hT9
  clear hT9
  go_wp2_with fail
  refine (pkidn_any 5 S2 bn n 3 y8 HR8.out (fun h => by have := HS2.out _ h; have := HBN.out; omega)).mono ?_
  rintro e y10 ⟨k10, rfl, hk10, hr10, f10⟩
  have HK10 := hid hk10; have HR10 := hid hr10; have HF10 := hid (HF8.out.trans f10 fun k e => .inr (by have e : k = bn := e; have := HBN.out; omega)); have HB10 := hid (HB8.out.fr f10 (fun e => by have e : bm = bn := e; have := HBN.out; have := HLM.out; omega))
  have HX10 := hid (HX8.out.fr f10 (fun e => by have e : w.heap.size = bn := e; have := HNX.out; omega))
  clear hk10 hr10 f10
  go_wp2_with fail
  refine (ptextOf_any _ _ _ _ y10 HK10.out).mono ?_
  rintro e y11 ⟨rfl, f11⟩
  have HR11 := hid (HR10.out.no f11); have HF11 := hid (HF10.out.trans f11 fun _ e => e.elim); have HB11 := hid (HB10.out.fr f11 id)
  have HX11 := hid (HX10.out.fr f11 id)
  clear f11
  obtain ⟨T12, hT12⟩ : ∃ x, sb (kidN n 3).body = x := ⟨_, rfl⟩
  rw [hT12]
  have HT12 := hid hT12
  clear hT12
  go_wp2_with (first
    | ((with_reducible refine K.atO (.store 3 _ _) ?_); (fail_if_success (have := HU0)); refine wpL_setV rfl _ _ _ rfl bm 27 (.int .i64 N3) rfl rfl rfl rfl _ _ HB11.out (by simp) infoI0 ?_; intro s_0 HY0 FU0 HW0; have HU0 := HY0)
    | ((with_reducible refine K.atO (.store 9 _ _) ?_); (fail_if_success (have := HU1)); (have := HU0); refine wpL_setV rfl _ _ _ rfl bm 28 (.string T6) rfl rfl rfl rfl _ _ HU0.out (by simp) infoS ?_; intro s_1 HY1 FU1 HW1; have HU1 := HY1)
    | ((with_reducible refine K.atO (.store 9 _ _) ?_); (fail_if_success (have := HU2)); (have := HU1); refine wpL_setV rfl _ _ _ rfl bm 29 (.string T9) rfl rfl rfl rfl _ _ HU1.out (by simp) infoS ?_; intro s_2 HY2 FU2 HW2; have HU2 := HY2)
    | ((with_reducible refine K.atO (.store 9 _ _) ?_); (fail_if_success (have := HU3)); (have := HU2); refine wpL_setV rfl _ _ _ rfl bm 3 (.string T12) rfl rfl rfl rfl _ _ HU2.out (by simp) infoS ?_; intro s_3 HY3 FU3 HW3; have HU3 := HY3; refine Hid.out ?_)
    | fail)
  have hs13 : Fr (fun k => k = bm) y11 s_3 := (((FU0.out.trans' FU1.out).trans' FU2.out).trans' FU3.out)
  have HF13 := hid (HF11.out.trans' hs13); have HB13 := HU3
  have HR13 := hid (HR11.out.fr hs13 (fun i hi _ e => by have := HS2.out _ hi; have e : i = bm := e; omega) (fun e => by have e : bn = bm := e; have := HBN.out; have := HLM.out; omega))
  have HX13 := hid (HX11.out.fr hs13 (fun e => by have e : w.heap.size = bm := e; have := HLM.out; omega))
  clear hs13 HY0 FU0 HW0 HY1 FU1 HW1 HY2 FU2 HW2 HY3 FU3 HW3
  refine hid ?_
  go_wp2_with fail
  go_end0
  refine ⟨rfl, .slice none 0 0, .slice none 0 0, .slice none 0 0, .slice none 0 0, .slice none 0 0, ?_, ⟨⟨HID.out, ⟨by have := HOT.out; show (-9223372036854775808 : Int) ≤ 109; omega, by have := HOT.out; show (109 : Int) ≤ _; omega⟩, i64z, i64z, i64z, i64z, i64z, i64z, val_i64 _⟩, ⟨kid_szN HD.out 3, (Nat.zero_le _), (Nat.zero_le _), (Nat.zero_le _), (Nat.zero_le _), (Nat.zero_le _), kid_szN HD.out 1, kid_szN HD.out 2⟩, ⟨_, _, rfl, i64z, (Nat.zero_le _), (Nat.zero_le _), (Nat.zero_le _), (Nat.zero_le _), tx_none _ _, ⟨none, 0, rfl, Nat.le_refl _, by show (0 : Nat) ≤ _; omega, .inl rfl⟩⟩, tx_none _ _, ⟨none, 0, rfl, Nat.le_refl _, by show (0 : Nat) ≤ _; omega, .inl rfl⟩, ⟨none, 0, rfl, Nat.le_refl _, by show (0 : Nat) ≤ _; omega, .inl rfl⟩⟩, HF13.out⟩
  have h := HB13.out
  rw [← HN3.out, ← HT6.out, ← HT9.out, ← HT12.out] at h
  exact h
set_option maxHeartbeats 16000000 in
theorem pro_111 (S : Nat → Prop) (bm : Nat) (mi : Int) (n : Nd) (cs : List Value) (w : World) (hn : NdAt 7 S w n cs) (hS : ¬ S bm) (hmi : I64 mi) (ho : okF 7 n) (hot : I64 (111)) (hB : Blk w bm 29 [.int .i64 mi, .int .i64 111, .int .i64 0, .string ⟨#[]⟩, .string ⟨#[]⟩, .int .i64 0, .int .i64 0, .int .i64 0, .int .i64 0, .bool false, .int .i64 0, .slice none 0 0, .string ⟨#[]⟩, .string ⟨#[]⟩, .string ⟨#[]⟩, .slice none 0 0, .string ⟨#[]⟩, .slice none 0 0, .slice none 0 0, .slice none 0 0, .string ⟨#[]⟩, .bool false, .bool false, .string ⟨#[]⟩, .string ⟨#[]⟩, .string ⟨#[]⟩, .int .i64 0, .int .i64 0, .string ⟨#[]⟩, .string ⟨#[]⟩])  :
    Calls Try.prog 31 #[.pointer (some ⟨bm, 0, none⟩), .agg cs.toArray] w (ReadOp bm ({ msg0 mi 111 with code := valN (kidN n 0), matched := (kidN n 1).body, text := (kidN n 2).body, name := (kidN n 3).body }) w) := by
  obtain ⟨S2, hS2⟩ : ∃ S2 : Nat → Prop, S2 = fun k => S k ∧ k < w.heap.size := ⟨_, rfl⟩
  have HS2 : Hid (∀ k, S2 k → k < w.heap.size ∧ k ≠ bm) := hid (fun k hk => by rw [hS2] at hk; exact ⟨hk.2, fun e => hS (e ▸ hk.1)⟩)
  have HD : Hid (NdAt 7 S2 w n cs) := hid (nd_two hn (fun k hk h => by rw [hS2]; exact ⟨h, hk⟩))
  have HID := hid hmi; have HOK := hid ho; have HOT := hid hot; have HB0 := hid hB; have HLM := hid hB.lt
  have k1 : w.cell? ⟨bm, 1, none⟩ = some (.int .i64 111) := hB.cell 1
  obtain ⟨a, sc, hcs, -, -, -⟩ := hn.head
  clear hn hS hmi ho hot hB hS2
  subst hcs
  obtain ⟨bs, hbs⟩ : ∃ b, sb n.body = b := ⟨_, rfl⟩
  obtain ⟨tg, htg⟩ : ∃ t, n.tag = t := ⟨_, rfl⟩
  obtain ⟨kl, hkl⟩ : ∃ k, n.kids.length = k := ⟨_, rfl⟩
  rw [hbs, htg, hkl] at HD ⊢
  have HBS := hid hbs; have HKL := hid hkl
  clear hbs htg hkl
  go_enter Try.func31, Try.ntmps31
  go_wp2_with (first
    | ((with_reducible refine K.atO (.box 44 _) ?_); refine wpL_box rfl _ _ rfl _ rfl [.int .i64 tg, .string bs, .slice a kl sc] rfl ?_; intro w1 HB1 F1 HS1)
    | ((with_reducible refine K.atO (.load 44 _) ?_); refine wpL_load rfl _ _ rfl w.heap.size 0 rfl [.int .i64 tg, .string bs, .slice a kl sc] _ (HB1.out.range 0 _ rfl) rfl rfl infoN ?_)
    | fail)
  refine (pchildren_any 6 S2 n [.int .i64 tg, .string bs, .slice a kl sc] w1 (HD.out.no F1.out)).mono ?_
  rintro e w3 ⟨bn, rfl, hbn, hr, f3⟩
  have HBN : Hid (w.heap.size ≤ bn) := hid (Nat.le_trans F1.out.size hbn)
  have HNX : Hid (w.heap.size < bn) := hid (by have := HS1.out; omega)
  have HR0 := hid hr.start; have HF3 : Hid (Fr (fun k => k = bm) w w3) := hid ((F1.out.trans' f3).mono fun _ e => e.elim)
  have HBm := hid ((HB0.out.fr F1.out (fun e => e)).fr f3 (fun e => e)); have HBx := hid (HB1.out.fr f3 (fun e => e))
  have kop : w3.cell? ⟨bm, 1, none⟩ = some (.int .i64 111) := HBm.out.cell 1
  clear hbn hr f3 HB1 F1 HS1 HB0 k1
  go_wp2_with fail
  clear kop
  refine (pkidn_any 5 S2 bn n 0 w3 HR0.out (fun h => by have := HS2.out _ h; have := HBN.out; omega)).mono ?_
  rintro e y1 ⟨k1, rfl, hk1, hr1, f1⟩
  have HK1 := hid hk1; have HR1 := hid hr1; have HF1 := hid (HF3.out.trans f1 fun k e => .inr (by have e : k = bn := e; have := HBN.out; omega)); have HB1 := hid (HBm.out.fr f1 (fun e => by have e : bm = bn := e; have := HBN.out; have := HLM.out; omega))
  have HX1 := hid (HBx.out.fr f1 (fun e => by have e : w.heap.size = bn := e; have := HNX.out; omega))
  clear hk1 hr1 f1
  go_wp2_with fail
  refine (pnumberOf_any _ _ _ _ y1 HK1.out).mono ?_
  rintro e y2 ⟨rfl, f2⟩
  have HR2 := hid (HR1.out.no f2); have HF2 := hid (HF1.out.trans f2 fun _ e => e.elim); have HB2 := hid (HB1.out.fr f2 id)
  have HX2 := hid (HX1.out.fr f2 id)
  clear f2
  obtain ⟨N3, hN3⟩ : ∃ x, valN (kidN n 0) = x := ⟨_, rfl⟩
  rw [hN3]
  have HN3 := hid hN3
  clear hN3
  go_wp2_with fail
  refine (pkidn_any 5 S2 bn n 1 y2 HR2.out (fun h => by have := HS2.out _ h; have := HBN.out; omega)).mono ?_
  rintro e y4 ⟨k4, rfl, hk4, hr4, f4⟩
  have HK4 := hid hk4; have HR4 := hid hr4; have HF4 := hid (HF2.out.trans f4 fun k e => .inr (by have e : k = bn := e; have := HBN.out; omega)); have HB4 := hid (HB2.out.fr f4 (fun e => by have e : bm = bn := e; have := HBN.out; have := HLM.out; omega))
  have HX4 := hid (HX2.out.fr f4 (fun e => by have e : w.heap.size = bn := e; have := HNX.out; omega))
  clear hk4 hr4 f4
  go_wp2_with fail
  refine (ptextOf_any _ _ _ _ y4 HK4.out).mono ?_
  rintro e y5 ⟨rfl, f5⟩
  have HR5 := hid (HR4.out.no f5); have HF5 := hid (HF4.out.trans f5 fun _ e => e.elim); have HB5 := hid (HB4.out.fr f5 id)
  have HX5 := hid (HX4.out.fr f5 id)
  clear f5
  obtain ⟨T6, hT6⟩ : ∃ x, sb (kidN n 1).body = x := ⟨_, rfl⟩
  rw [hT6]
  have HT6 := hid hT6
  clear hT6
  go_wp2_with fail
  refine (pkidn_any 5 S2 bn n 2 y5 HR5.out (fun h => by have := HS2.out _ h; have := HBN.out; omega)).mono ?_
  rintro e y7 ⟨k7, rfl, hk7, hr7, f7⟩
  have HK7 := hid hk7; have HR7 := hid hr7; have HF7 := hid (HF5.out.trans f7 fun k e => .inr (by have e : k = bn := e; have := HBN.out; omega)); have HB7 := hid (HB5.out.fr f7 (fun e => by have e : bm = bn := e; have := HBN.out; have := HLM.out; omega))
  have HX7 := hid (HX5.out.fr f7 (fun e => by have e : w.heap.size = bn := e; have := HNX.out; omega))
  clear hk7 hr7 f7
  go_wp2_with fail
  refine (ptextOf_any _ _ _ _ y7 HK7.out).mono ?_
  rintro e y8 ⟨rfl, f8⟩
  have HR8 := hid (HR7.out.no f8); have HF8 := hid (HF7.out.trans f8 fun _ e => e.elim); have HB8 := hid (HB7.out.fr f8 id)
  have HX8 := hid (HX7.out.fr f8 id)
  clear f8
  obtain ⟨T9, hT9⟩ : ∃ x, sb (kidN n 2).body = x := ⟨_, rfl⟩
  rw [hT9]
  have HT9 := hid hT9
  clear hT9
  go_wp2_with fail
  refine (pkidn_any 5 S2 bn n 3 y8 HR8.out (fun h => by have := HS2.out _ h; have := HBN.out; omega)).mono ?_
  rintro e y10 ⟨k10, rfl, hk10, hr10, f10⟩
  have HK10 := hid hk10; have HR10 := hid hr10; have HF10 := hid (HF8.out.trans f10 fun k e => .inr (by have e : k = bn := e; have := HBN.out; omega)); have HB10 := hid (HB8.out.fr f10 (fun e => by have e : bm = bn := e; have := HBN.out; have := HLM.out; omega))
  have HX10 := hid (HX8.out.fr f10 (fun e => by have e : w.heap.size = bn := e; have := HNX.out; omega))
  clear hk10 hr10 f10
  go_wp2_with fail
  refine (ptextOf_any _ _ _ _ y10 HK10.out).mono ?_
  rintro e y11 ⟨rfl, f11⟩
  have HR11 := hid (HR10.out.no f11); have HF11 := hid (HF10.out.trans f11 fun _ e => e.elim); have HB11 := hid (HB10.out.fr f11 id)
  have HX11 := hid (HX10.out.fr f11 id)
  clear f11
  obtain ⟨T12, hT12⟩ : ∃ x, sb (kidN n 3).body = x := ⟨_, rfl⟩
  rw [hT12]
  have HT12 := hid hT12
  clear hT12
  go_wp2_with (first
    | ((with_reducible refine K.atO (.store 3 _ _) ?_); (fail_if_success (have := HU0)); refine wpL_setV rfl _ _ _ rfl bm 27 (.int .i64 N3) rfl rfl rfl rfl _ _ HB11.out (by simp) infoI0 ?_; intro s_0 HY0 FU0 HW0; have HU0 := HY0)
    | ((with_reducible refine K.atO (.store 9 _ _) ?_); (fail_if_success (have := HU1)); (have := HU0); refine wpL_setV rfl _ _ _ rfl bm 28 (.string T6) rfl rfl rfl rfl _ _ HU0.out (by simp) infoS ?_; intro s_1 HY1 FU1 HW1; have HU1 := HY1)
    | ((with_reducible refine K.atO (.store 9 _ _) ?_); (fail_if_success (have := HU2)); (have := HU1); refine wpL_setV rfl _ _ _ rfl bm 29 (.string T9) rfl rfl rfl rfl _ _ HU1.out (by simp) infoS ?_; intro s_2 HY2 FU2 HW2; have HU2 := HY2)
    | ((with_reducible refine K.atO (.store 9 _ _) ?_); (fail_if_success (have := HU3)); (have := HU2); refine wpL_setV rfl _ _ _ rfl bm 3 (.string T12) rfl rfl rfl rfl _ _ HU2.out (by simp) infoS ?_; intro s_3 HY3 FU3 HW3; have HU3 := HY3; refine Hid.out ?_)
    | fail)
  have hs13 : Fr (fun k => k = bm) y11 s_3 := (((FU0.out.trans' FU1.out).trans' FU2.out).trans' FU3.out)
  have HF13 := hid (HF11.out.trans' hs13); have HB13 := HU3
  have HR13 := hid (HR11.out.fr hs13 (fun i hi _ e => by have := HS2.out _ hi; have e : i = bm := e; omega) (fun e => by have e : bn = bm := e; have := HBN.out; have := HLM.out; omega))
  have HX13 := hid (HX11.out.fr hs13 (fun e => by have e : w.heap.size = bm := e; have := HLM.out; omega))
  clear hs13 HY0 FU0 HW0 HY1 FU1 HW1 HY2 FU2 HW2 HY3 FU3 HW3
  refine hid ?_
  go_wp2_with fail
  go_end0
  refine ⟨rfl, .slice none 0 0, .slice none 0 0, .slice none 0 0, .slice none 0 0, .slice none 0 0, ?_, ⟨⟨HID.out, ⟨by have := HOT.out; show (-9223372036854775808 : Int) ≤ 111; omega, by have := HOT.out; show (111 : Int) ≤ _; omega⟩, i64z, i64z, i64z, i64z, i64z, i64z, val_i64 _⟩, ⟨kid_szN HD.out 3, (Nat.zero_le _), (Nat.zero_le _), (Nat.zero_le _), (Nat.zero_le _), (Nat.zero_le _), kid_szN HD.out 1, kid_szN HD.out 2⟩, ⟨_, _, rfl, i64z, (Nat.zero_le _), (Nat.zero_le _), (Nat.zero_le _), (Nat.zero_le _), tx_none _ _, ⟨none, 0, rfl, Nat.le_refl _, by show (0 : Nat) ≤ _; omega, .inl rfl⟩⟩, tx_none _ _, ⟨none, 0, rfl, Nat.le_refl _, by show (0 : Nat) ≤ _; omega, .inl rfl⟩, ⟨none, 0, rfl, Nat.le_refl _, by show (0 : Nat) ≤ _; omega, .inl rfl⟩⟩, HF13.out⟩
  have h := HB13.out
  rw [← HN3.out, ← HT6.out, ← HT9.out, ← HT12.out] at h
  exact h
set_option maxHeartbeats 16000000 in
theorem pro_120 (S : Nat → Prop) (bm : Nat) (mi : Int) (n : Nd) (cs : List Value) (w : World) (hn : NdAt 7 S w n cs) (hS : ¬ S bm) (hmi : I64 mi) (ho : okF 7 n) (hot : I64 (120)) (hB : Blk w bm 29 [.int .i64 mi, .int .i64 120, .int .i64 0, .string ⟨#[]⟩, .string ⟨#[]⟩, .int .i64 0, .int .i64 0, .int .i64 0, .int .i64 0, .bool false, .int .i64 0, .slice none 0 0, .string ⟨#[]⟩, .string ⟨#[]⟩, .string ⟨#[]⟩, .slice none 0 0, .string ⟨#[]⟩, .slice none 0 0, .slice none 0 0, .slice none 0 0, .string ⟨#[]⟩, .bool false, .bool false, .string ⟨#[]⟩, .string ⟨#[]⟩, .string ⟨#[]⟩, .int .i64 0, .int .i64 0, .string ⟨#[]⟩, .string ⟨#[]⟩])  :
    Calls Try.prog 31 #[.pointer (some ⟨bm, 0, none⟩), .agg cs.toArray] w (ReadOp bm ({ msg0 mi 120 with code := valN (kidN n 0), matched := (kidN n 1).body, text := (kidN n 2).body, name := (kidN n 3).body }) w) := by
  obtain ⟨S2, hS2⟩ : ∃ S2 : Nat → Prop, S2 = fun k => S k ∧ k < w.heap.size := ⟨_, rfl⟩
  have HS2 : Hid (∀ k, S2 k → k < w.heap.size ∧ k ≠ bm) := hid (fun k hk => by rw [hS2] at hk; exact ⟨hk.2, fun e => hS (e ▸ hk.1)⟩)
  have HD : Hid (NdAt 7 S2 w n cs) := hid (nd_two hn (fun k hk h => by rw [hS2]; exact ⟨h, hk⟩))
  have HID := hid hmi; have HOK := hid ho; have HOT := hid hot; have HB0 := hid hB; have HLM := hid hB.lt
  have k1 : w.cell? ⟨bm, 1, none⟩ = some (.int .i64 120) := hB.cell 1
  obtain ⟨a, sc, hcs, -, -, -⟩ := hn.head
  clear hn hS hmi ho hot hB hS2
  subst hcs
  obtain ⟨bs, hbs⟩ : ∃ b, sb n.body = b := ⟨_, rfl⟩
  obtain ⟨tg, htg⟩ : ∃ t, n.tag = t := ⟨_, rfl⟩
  obtain ⟨kl, hkl⟩ : ∃ k, n.kids.length = k := ⟨_, rfl⟩
  rw [hbs, htg, hkl] at HD ⊢
  have HBS := hid hbs; have HKL := hid hkl
  clear hbs htg hkl
  go_enter Try.func31, Try.ntmps31
  go_wp2_with (first
    | ((with_reducible refine K.atO (.box 44 _) ?_); refine wpL_box rfl _ _ rfl _ rfl [.int .i64 tg, .string bs, .slice a kl sc] rfl ?_; intro w1 HB1 F1 HS1)
    | ((with_reducible refine K.atO (.load 44 _) ?_); refine wpL_load rfl _ _ rfl w.heap.size 0 rfl [.int .i64 tg, .string bs, .slice a kl sc] _ (HB1.out.range 0 _ rfl) rfl rfl infoN ?_)
    | fail)
  refine (pchildren_any 6 S2 n [.int .i64 tg, .string bs, .slice a kl sc] w1 (HD.out.no F1.out)).mono ?_
  rintro e w3 ⟨bn, rfl, hbn, hr, f3⟩
  have HBN : Hid (w.heap.size ≤ bn) := hid (Nat.le_trans F1.out.size hbn)
  have HNX : Hid (w.heap.size < bn) := hid (by have := HS1.out; omega)
  have HR0 := hid hr.start; have HF3 : Hid (Fr (fun k => k = bm) w w3) := hid ((F1.out.trans' f3).mono fun _ e => e.elim)
  have HBm := hid ((HB0.out.fr F1.out (fun e => e)).fr f3 (fun e => e)); have HBx := hid (HB1.out.fr f3 (fun e => e))
  have kop : w3.cell? ⟨bm, 1, none⟩ = some (.int .i64 120) := HBm.out.cell 1
  clear hbn hr f3 HB1 F1 HS1 HB0 k1
  go_wp2_with fail
  clear kop
  refine (pkidn_any 5 S2 bn n 0 w3 HR0.out (fun h => by have := HS2.out _ h; have := HBN.out; omega)).mono ?_
  rintro e y1 ⟨k1, rfl, hk1, hr1, f1⟩
  have HK1 := hid hk1; have HR1 := hid hr1; have HF1 := hid (HF3.out.trans f1 fun k e => .inr (by have e : k = bn := e; have := HBN.out; omega)); have HB1 := hid (HBm.out.fr f1 (fun e => by have e : bm = bn := e; have := HBN.out; have := HLM.out; omega))
  have HX1 := hid (HBx.out.fr f1 (fun e => by have e : w.heap.size = bn := e; have := HNX.out; omega))
  clear hk1 hr1 f1
  go_wp2_with fail
  refine (pnumberOf_any _ _ _ _ y1 HK1.out).mono ?_
  rintro e y2 ⟨rfl, f2⟩
  have HR2 := hid (HR1.out.no f2); have HF2 := hid (HF1.out.trans f2 fun _ e => e.elim); have HB2 := hid (HB1.out.fr f2 id)
  have HX2 := hid (HX1.out.fr f2 id)
  clear f2
  obtain ⟨N3, hN3⟩ : ∃ x, valN (kidN n 0) = x := ⟨_, rfl⟩
  rw [hN3]
  have HN3 := hid hN3
  clear hN3
  go_wp2_with fail
  refine (pkidn_any 5 S2 bn n 1 y2 HR2.out (fun h => by have := HS2.out _ h; have := HBN.out; omega)).mono ?_
  rintro e y4 ⟨k4, rfl, hk4, hr4, f4⟩
  have HK4 := hid hk4; have HR4 := hid hr4; have HF4 := hid (HF2.out.trans f4 fun k e => .inr (by have e : k = bn := e; have := HBN.out; omega)); have HB4 := hid (HB2.out.fr f4 (fun e => by have e : bm = bn := e; have := HBN.out; have := HLM.out; omega))
  have HX4 := hid (HX2.out.fr f4 (fun e => by have e : w.heap.size = bn := e; have := HNX.out; omega))
  clear hk4 hr4 f4
  go_wp2_with fail
  refine (ptextOf_any _ _ _ _ y4 HK4.out).mono ?_
  rintro e y5 ⟨rfl, f5⟩
  have HR5 := hid (HR4.out.no f5); have HF5 := hid (HF4.out.trans f5 fun _ e => e.elim); have HB5 := hid (HB4.out.fr f5 id)
  have HX5 := hid (HX4.out.fr f5 id)
  clear f5
  obtain ⟨T6, hT6⟩ : ∃ x, sb (kidN n 1).body = x := ⟨_, rfl⟩
  rw [hT6]
  have HT6 := hid hT6
  clear hT6
  go_wp2_with fail
  refine (pkidn_any 5 S2 bn n 2 y5 HR5.out (fun h => by have := HS2.out _ h; have := HBN.out; omega)).mono ?_
  rintro e y7 ⟨k7, rfl, hk7, hr7, f7⟩
  have HK7 := hid hk7; have HR7 := hid hr7; have HF7 := hid (HF5.out.trans f7 fun k e => .inr (by have e : k = bn := e; have := HBN.out; omega)); have HB7 := hid (HB5.out.fr f7 (fun e => by have e : bm = bn := e; have := HBN.out; have := HLM.out; omega))
  have HX7 := hid (HX5.out.fr f7 (fun e => by have e : w.heap.size = bn := e; have := HNX.out; omega))
  clear hk7 hr7 f7
  go_wp2_with fail
  refine (ptextOf_any _ _ _ _ y7 HK7.out).mono ?_
  rintro e y8 ⟨rfl, f8⟩
  have HR8 := hid (HR7.out.no f8); have HF8 := hid (HF7.out.trans f8 fun _ e => e.elim); have HB8 := hid (HB7.out.fr f8 id)
  have HX8 := hid (HX7.out.fr f8 id)
  clear f8
  obtain ⟨T9, hT9⟩ : ∃ x, sb (kidN n 2).body = x := ⟨_, rfl⟩
  rw [hT9]
  have HT9 := hid hT9
  clear hT9
  go_wp2_with fail
  refine (pkidn_any 5 S2 bn n 3 y8 HR8.out (fun h => by have := HS2.out _ h; have := HBN.out; omega)).mono ?_
  rintro e y10 ⟨k10, rfl, hk10, hr10, f10⟩
  have HK10 := hid hk10; have HR10 := hid hr10; have HF10 := hid (HF8.out.trans f10 fun k e => .inr (by have e : k = bn := e; have := HBN.out; omega)); have HB10 := hid (HB8.out.fr f10 (fun e => by have e : bm = bn := e; have := HBN.out; have := HLM.out; omega))
  have HX10 := hid (HX8.out.fr f10 (fun e => by have e : w.heap.size = bn := e; have := HNX.out; omega))
  clear hk10 hr10 f10
  go_wp2_with fail
  refine (ptextOf_any _ _ _ _ y10 HK10.out).mono ?_
  rintro e y11 ⟨rfl, f11⟩
  have HR11 := hid (HR10.out.no f11); have HF11 := hid (HF10.out.trans f11 fun _ e => e.elim); have HB11 := hid (HB10.out.fr f11 id)
  have HX11 := hid (HX10.out.fr f11 id)
  clear f11
  obtain ⟨T12, hT12⟩ : ∃ x, sb (kidN n 3).body = x := ⟨_, rfl⟩
  rw [hT12]
  have HT12 := hid hT12
  clear hT12
  go_wp2_with (first
    | ((with_reducible refine K.atO (.store 3 _ _) ?_); (fail_if_success (have := HU0)); refine wpL_setV rfl _ _ _ rfl bm 27 (.int .i64 N3) rfl rfl rfl rfl _ _ HB11.out (by simp) infoI0 ?_; intro s_0 HY0 FU0 HW0; have HU0 := HY0)
    | ((with_reducible refine K.atO (.store 9 _ _) ?_); (fail_if_success (have := HU1)); (have := HU0); refine wpL_setV rfl _ _ _ rfl bm 28 (.string T6) rfl rfl rfl rfl _ _ HU0.out (by simp) infoS ?_; intro s_1 HY1 FU1 HW1; have HU1 := HY1)
    | ((with_reducible refine K.atO (.store 9 _ _) ?_); (fail_if_success (have := HU2)); (have := HU1); refine wpL_setV rfl _ _ _ rfl bm 29 (.string T9) rfl rfl rfl rfl _ _ HU1.out (by simp) infoS ?_; intro s_2 HY2 FU2 HW2; have HU2 := HY2)
    | ((with_reducible refine K.atO (.store 9 _ _) ?_); (fail_if_success (have := HU3)); (have := HU2); refine wpL_setV rfl _ _ _ rfl bm 3 (.string T12) rfl rfl rfl rfl _ _ HU2.out (by simp) infoS ?_; intro s_3 HY3 FU3 HW3; have HU3 := HY3; refine Hid.out ?_)
    | fail)
  have hs13 : Fr (fun k => k = bm) y11 s_3 := (((FU0.out.trans' FU1.out).trans' FU2.out).trans' FU3.out)
  have HF13 := hid (HF11.out.trans' hs13); have HB13 := HU3
  have HR13 := hid (HR11.out.fr hs13 (fun i hi _ e => by have := HS2.out _ hi; have e : i = bm := e; omega) (fun e => by have e : bn = bm := e; have := HBN.out; have := HLM.out; omega))
  have HX13 := hid (HX11.out.fr hs13 (fun e => by have e : w.heap.size = bm := e; have := HLM.out; omega))
  clear hs13 HY0 FU0 HW0 HY1 FU1 HW1 HY2 FU2 HW2 HY3 FU3 HW3
  refine hid ?_
  go_wp2_with fail
  go_end0
  refine ⟨rfl, .slice none 0 0, .slice none 0 0, .slice none 0 0, .slice none 0 0, .slice none 0 0, ?_, ⟨⟨HID.out, ⟨by have := HOT.out; show (-9223372036854775808 : Int) ≤ 120; omega, by have := HOT.out; show (120 : Int) ≤ _; omega⟩, i64z, i64z, i64z, i64z, i64z, i64z, val_i64 _⟩, ⟨kid_szN HD.out 3, (Nat.zero_le _), (Nat.zero_le _), (Nat.zero_le _), (Nat.zero_le _), (Nat.zero_le _), kid_szN HD.out 1, kid_szN HD.out 2⟩, ⟨_, _, rfl, i64z, (Nat.zero_le _), (Nat.zero_le _), (Nat.zero_le _), (Nat.zero_le _), tx_none _ _, ⟨none, 0, rfl, Nat.le_refl _, by show (0 : Nat) ≤ _; omega, .inl rfl⟩⟩, tx_none _ _, ⟨none, 0, rfl, Nat.le_refl _, by show (0 : Nat) ≤ _; omega, .inl rfl⟩, ⟨none, 0, rfl, Nat.le_refl _, by show (0 : Nat) ≤ _; omega, .inl rfl⟩⟩, HF13.out⟩
  have h := HB13.out
  rw [← HN3.out, ← HT6.out, ← HT9.out, ← HT12.out] at h
  exact h
end Go.Proofs.Ythjmkfpdbbfcpaa.ME
