/-
  Part 13 of the proof: MpY2.
-/
import Derived.Test.YthjmkfpdbbfcpaaMk12
set_option linter.unusedSimpArgs false
set_option linter.unusedVariables false
namespace Go.Proofs.Ythjmkfpdbbfcpaa.ME
set_option maxRecDepth 100000
open Go.RowKit K Go.Proofs.Ythjmkfpdbbfcpaa.BE Go.Proofs.Ythjmkfpdbbfcpaa.FR

set_option maxHeartbeats 16000000 in
theorem pro_102 (S : Nat → Prop) (bm : Nat) (mi : Int) (n : Nd) (cs : List Value) (w : World) (hn : NdAt 7 S w n cs) (hS : ¬ S bm) (hmi : I64 mi) (ho : okF 7 n) (hot : I64 (102)) (hB : Blk w bm 29 [.int .i64 mi, .int .i64 102, .int .i64 0, .string ⟨#[]⟩, .string ⟨#[]⟩, .int .i64 0, .int .i64 0, .int .i64 0, .int .i64 0, .bool false, .int .i64 0, .slice none 0 0, .string ⟨#[]⟩, .string ⟨#[]⟩, .string ⟨#[]⟩, .slice none 0 0, .string ⟨#[]⟩, .slice none 0 0, .slice none 0 0, .slice none 0 0, .string ⟨#[]⟩, .bool false, .bool false, .string ⟨#[]⟩, .string ⟨#[]⟩, .string ⟨#[]⟩, .int .i64 0, .int .i64 0, .string ⟨#[]⟩, .string ⟨#[]⟩])  :
    Calls Try.prog 31 #[.pointer (some ⟨bm, 0, none⟩), .agg cs.toArray] w (ReadOp bm ({ msg0 mi 102 with name := (kidN n 0).body, mods := (kidN n 1).kids.map moOf }) w) := by
  obtain ⟨S2, hS2⟩ : ∃ S2 : Nat → Prop, S2 = fun k => S k ∧ k < w.heap.size := ⟨_, rfl⟩
  have HS2 : Hid (∀ k, S2 k → k < w.heap.size ∧ k ≠ bm) := hid (fun k hk => by rw [hS2] at hk; exact ⟨hk.2, fun e => hS (e ▸ hk.1)⟩)
  have HD : Hid (NdAt 7 S2 w n cs) := hid (nd_two hn (fun k hk h => by rw [hS2]; exact ⟨h, hk⟩))
  have HID := hid hmi; have HOK := hid ho; have HOT := hid hot; have HB0 := hid hB; have HLM := hid hB.lt
  have k1 : w.cell? ⟨bm, 1, none⟩ = some (.int .i64 102) := hB.cell 1
  obtain ⟨a, sc, hcs, -, -, -⟩ := hn.head
  clear hn hS hmi ho hot hB hS2
  subst hcs
  obtain ⟨bs, hbs⟩ : ∃ b, sb n.body = b := ⟨_, rfl⟩
  obtain ⟨tg, htg⟩ : ∃ t, n.tag = t := ⟨_, rfl⟩
  obtain ⟨kl, hkl⟩ : ∃ k, n.kids.length = k := ⟨_, rfl⟩
  rw [hbs, htg, hkl] at HD ⊢
  have HBS := hid hbs; have HKL := hid hkl
  clear hbs htg hkl
  go_enter Try.func31, Try.ntmps31
  go_wp2_with (first
    | ((with_reducible refine K.atO (.box 44 _) ?_); refine wpL_box rfl _ _ rfl _ rfl [.int .i64 tg, .string bs, .slice a kl sc] rfl ?_; intro w1 HB1 F1 HS1)
    | ((with_reducible refine K.atO (.load 44 _) ?_); refine wpL_load rfl _ _ rfl w.heap.size 0 rfl [.int .i64 tg, .string bs, .slice a kl sc] _ (HB1.out.range 0 _ rfl) rfl rfl infoN ?_)
    | fail)
  refine (pchildren_any 6 S2 n [.int .i64 tg, .string bs, .slice a kl sc] w1 (HD.out.no F1.out)).mono ?_
  rintro e w3 ⟨bn, rfl, hbn, hr, f3⟩
  have HBN : Hid (w.heap.size ≤ bn) := hid (Nat.le_trans F1.out.size hbn)
  have HNX : Hid (w.heap.size < bn) := hid (by have := HS1.out; omega)
  have HR0 := hid hr.start; have HF3 : Hid (Fr (fun k => k = bm) w w3) := hid ((F1.out.trans' f3).mono fun _ e => e.elim)
  have HBm := hid ((HB0.out.fr F1.out (fun e => e)).fr f3 (fun e => e)); have HBx := hid (HB1.out.fr f3 (fun e => e))
  have kop : w3.cell? ⟨bm, 1, none⟩ = some (.int .i64 102) := HBm.out.cell 1
  clear hbn hr f3 HB1 F1 HS1 HB0 k1
  go_wp2_with fail
  clear kop
  refine (pkidn_any 5 S2 bn n 0 w3 HR0.out (fun h => by have := HS2.out _ h; have := HBN.out; omega)).mono ?_
  rintro e y1 ⟨k1, rfl, hk1, hr1, f1⟩
  have HK1 := hid hk1; have HR1 := hid hr1; have HF1 := hid (HF3.out.trans f1 fun k e => .inr (by have e : k = bn := e; have := HBN.out; omega)); have HB1 := hid (HBm.out.fr f1 (fun e => by have e : bm = bn := e; have := HBN.out; have := HLM.out; omega))
  have HX1 := hid (HBx.out.fr f1 (fun e => by have e : w.heap.size = bn := e; have := HNX.out; omega))
  clear hk1 hr1 f1
  go_wp2_with fail
  refine (ptextOf_any _ _ _ _ y1 HK1.out).mono ?_
  rintro e y2 ⟨rfl, f2⟩
  have HR2 := hid (HR1.out.no f2); have HF2 := hid (HF1.out.trans f2 fun _ e => e.elim); have HB2 := hid (HB1.out.fr f2 id)
  have HX2 := hid (HX1.out.fr f2 id)
  clear f2
  obtain ⟨T3, hT3⟩ : ∃ x, sb (kidN n 0).body = x := ⟨_, rfl⟩
  rw [hT3]
  have HT3 := hid hT3
  clear hT3
  go_wp2_with fail
  refine (pkidn_any 5 S2 bn n 1 y2 HR2.out (fun h => by have := HS2.out _ h; have := HBN.out; omega)).mono ?_
  rintro e y4 ⟨k4, rfl, hk4, hr4, f4⟩
  have HK4 := hid hk4; have HR4 := hid hr4; have HF4 := hid (HF2.out.trans f4 fun k e => .inr (by have e : k = bn := e; have := HBN.out; omega)); have HB4 := hid (HB2.out.fr f4 (fun e => by have e : bm = bn := e; have := HBN.out; have := HLM.out; omega))
  have HX4 := hid (HX2.out.fr f4 (fun e => by have e : w.heap.size = bn := e; have := HNX.out; omega))
  clear hk4 hr4 f4
  go_wp2_with fail
  refine (plistMo gpMo moOf 61 5 S2 (kidN n 1) _ y4 HK4.out (by have := HOK.out.kid 1; omega) (fun vs w => by kernel_rfl) (fun x hx c wv hx2 _ => pmodOf_any 4 S2 x c wv hx2 (by have := ((ok_of_mem (HOK.out.kidK 1) hx).kidK 1).kid 1; omega))).mono ?_
  rintro e y5 ⟨v, rfl, hv, f5⟩
  have HR5 := hid (HR4.out.no f5); have HF5 := hid (HF4.out.trans f5 fun _ e => e.elim); have HB5 := hid (HB4.out.fr f5 id)
  have HX5 := hid (HX4.out.fr f5 id)
  have HV5 := hid hv
  obtain ⟨va5, vc5, rfl, -, -⟩ := hv.form
  obtain ⟨vl5, hvl⟩ : ∃ k, ((kidN n 1).kids.map moOf).length = k := ⟨_, rfl⟩
  rw [hvl] at HV5 ⊢
  clear hv hvl
  have HLB5 : Hid (bm < y4.heap.size ∧ bn < y4.heap.size) := hid (by have := HR4.out.lt; have := HB4.out.lt; omega)
  clear f5
  go_wp2_with (first
    | ((with_reducible refine K.atO (.store 9 _ _) ?_); (fail_if_success (have := HU0)); refine wpL_setV rfl _ _ _ rfl bm 3 (.string T3) rfl rfl rfl rfl _ _ HB5.out (by simp) infoS ?_; intro s_0 HY0 FU0 HW0; have HU0 := HY0)
    | ((with_reducible refine K.atO (.store 27 _ _) ?_); (fail_if_success (have := HU1)); (have := HU0); refine wpL_setV rfl _ _ _ rfl bm 19 (.slice va5 vl5 vc5) rfl rfl rfl rfl _ _ HU0.out (by simp) infoMos ?_; intro s_1 HY1 FU1 HW1; have HU1 := HY1; refine Hid.out ?_)
    | fail)
  have hs6 : Fr (fun k => k = bm) y5 s_1 := (FU0.out.trans' FU1.out)
  have HF6 := hid (HF5.out.trans' hs6); have HB6 := HU1
  have HR6 := hid (HR5.out.fr hs6 (fun i hi _ e => by have := HS2.out _ hi; have e : i = bm := e; omega) (fun e => by have e : bn = bm := e; have := HBN.out; have := HLM.out; omega))
  have HX6 := hid (HX5.out.fr hs6 (fun e => by have e : w.heap.size = bm := e; have := HLM.out; omega))
  have HKP7 := hid (HV5.out.fr hs6 (fun k hk _ e => by have h : y4.heap.size ≤ k := hk; have e : k = bm := e; have := HLB5.out; omega) (fun x c _ hx => hx.fr hs6 (fun k hk _ e => by have h : y4.heap.size ≤ k := hk; have e : k = bm := e; have := HLB5.out; omega)))
  clear hs6 HY0 FU0 HW0 HY1 FU1 HW1
  refine hid ?_
  go_wp2_with fail
  go_end0
  refine ⟨rfl, .slice none 0 0, .slice none 0 0, .slice none 0 0, .slice none 0 0, .slice va5 vl5 vc5, ?_, ⟨⟨HID.out, ⟨by have := HOT.out; show (-9223372036854775808 : Int) ≤ 102; omega, by have := HOT.out; show (102 : Int) ≤ _; omega⟩, i64z, i64z, i64z, i64z, i64z, i64z, i64z⟩, ⟨kid_szN HD.out 0, (Nat.zero_le _), (Nat.zero_le _), (Nat.zero_le _), (Nat.zero_le _), (Nat.zero_le _), (Nat.zero_le _), (Nat.zero_le _)⟩, ⟨_, _, rfl, i64z, (Nat.zero_le _), (Nat.zero_le _), (Nat.zero_le _), (Nat.zero_le _), tx_none _ _, ⟨none, 0, rfl, Nat.le_refl _, by show (0 : Nat) ≤ _; omega, .inl rfl⟩⟩, tx_none _ _, ⟨none, 0, rfl, Nat.le_refl _, by show (0 : Nat) ≤ _; omega, .inl rfl⟩, HKP7.out.monoS (fun k _ hk => Nat.le_trans HF4.out.size hk) (fun x c hx => gpMo.mono hx (fun k _ hk => Nat.le_trans HF4.out.size hk))⟩, HF6.out⟩
  have h := HB6.out
  rw [← HT3.out] at h
  exact h
set_option maxHeartbeats 16000000 in
theorem pro_104 (S : Nat → Prop) (bm : Nat) (mi : Int) (n : Nd) (cs : List Value) (w : World) (hn : NdAt 7 S w n cs) (hS : ¬ S bm) (hmi : I64 mi) (ho : okF 7 n) (hot : I64 (104)) (hB : Blk w bm 29 [.int .i64 mi, .int .i64 104, .int .i64 0, .string ⟨#[]⟩, .string ⟨#[]⟩, .int .i64 0, .int .i64 0, .int .i64 0, .int .i64 0, .bool false, .int .i64 0, .slice none 0 0, .string ⟨#[]⟩, .string ⟨#[]⟩, .string ⟨#[]⟩, .slice none 0 0, .string ⟨#[]⟩, .slice none 0 0, .slice none 0 0, .slice none 0 0, .string ⟨#[]⟩, .bool false, .bool false, .string ⟨#[]⟩, .string ⟨#[]⟩, .string ⟨#[]⟩, .int .i64 0, .int .i64 0, .string ⟨#[]⟩, .string ⟨#[]⟩])  :
    Calls Try.prog 31 #[.pointer (some ⟨bm, 0, none⟩), .agg cs.toArray] w (ReadOp bm ({ msg0 mi 104 with name := (kidN n 0).body, list := (kidN n 1).kids.map atOf }) w) := by
  obtain ⟨S2, hS2⟩ : ∃ S2 : Nat → Prop, S2 = fun k => S k ∧ k < w.heap.size := ⟨_, rfl⟩
  have HS2 : Hid (∀ k, S2 k → k < w.heap.size ∧ k ≠ bm) := hid (fun k hk => by rw [hS2] at hk; exact ⟨hk.2, fun e => hS (e ▸ hk.1)⟩)
  have HD : Hid (NdAt 7 S2 w n cs) := hid (nd_two hn (fun k hk h => by rw [hS2]; exact ⟨h, hk⟩))
  have HID := hid hmi; have HOK := hid ho; have HOT := hid hot; have HB0 := hid hB; have HLM := hid hB.lt
  have k1 : w.cell? ⟨bm, 1, none⟩ = some (.int .i64 104) := hB.cell 1
  obtain ⟨a, sc, hcs, -, -, -⟩ := hn.head
  clear hn hS hmi ho hot hB hS2
  subst hcs
  obtain ⟨bs, hbs⟩ : ∃ b, sb n.body = b := ⟨_, rfl⟩
  obtain ⟨tg, htg⟩ : ∃ t, n.tag = t := ⟨_, rfl⟩
  obtain ⟨kl, hkl⟩ : ∃ k, n.kids.length = k := ⟨_, rfl⟩
  rw [hbs, htg, hkl] at HD ⊢
  have HBS := hid hbs; have HKL := hid hkl
  clear hbs htg hkl
  go_enter Try.func31, Try.ntmps31
  go_wp2_with (first
    | ((with_reducible refine K.atO (.box 44 _) ?_); refine wpL_box rfl _ _ rfl _ rfl [.int .i64 tg, .string bs, .slice a kl sc] rfl ?_; intro w1 HB1 F1 HS1)
    | ((with_reducible refine K.atO (.load 44 _) ?_); refine wpL_load rfl _ _ rfl w.heap.size 0 rfl [.int .i64 tg, .string bs, .slice a kl sc] _ (HB1.out.range 0 _ rfl) rfl rfl infoN ?_)
    | fail)
  refine (pchildren_any 6 S2 n [.int .i64 tg, .string bs, .slice a kl sc] w1 (HD.out.no F1.out)).mono ?_
  rintro e w3 ⟨bn, rfl, hbn, hr, f3⟩
  have HBN : Hid (w.heap.size ≤ bn) := hid (Nat.le_trans F1.out.size hbn)
  have HNX : Hid (w.heap.size < bn) := hid (by have := HS1.out; omega)
  have HR0 := hid hr.start; have HF3 : Hid (Fr (fun k => k = bm) w w3) := hid ((F1.out.trans' f3).mono fun _ e => e.elim)
  have HBm := hid ((HB0.out.fr F1.out (fun e => e)).fr f3 (fun e => e)); have HBx := hid (HB1.out.fr f3 (fun e => e))
  have kop : w3.cell? ⟨bm, 1, none⟩ = some (.int .i64 104) := HBm.out.cell 1
  clear hbn hr f3 HB1 F1 HS1 HB0 k1
  go_wp2_with fail
  clear kop
  refine (pkidn_any 5 S2 bn n 0 w3 HR0.out (fun h => by have := HS2.out _ h; have := HBN.out; omega)).mono ?_
  rintro e y1 ⟨k1, rfl, hk1, hr1, f1⟩
  have HK1 := hid hk1; have HR1 := hid hr1; have HF1 := hid (HF3.out.trans f1 fun k e => .inr (by have e : k = bn := e; have := HBN.out; omega)); have HB1 := hid (HBm.out.fr f1 (fun e => by have e : bm = bn := e; have := HBN.out; have := HLM.out; omega))
  have HX1 := hid (HBx.out.fr f1 (fun e => by have e : w.heap.size = bn := e; have := HNX.out; omega))
  clear hk1 hr1 f1
  go_wp2_with fail
  refine (ptextOf_any _ _ _ _ y1 HK1.out).mono ?_
  rintro e y2 ⟨rfl, f2⟩
  have HR2 := hid (HR1.out.no f2); have HF2 := hid (HF1.out.trans f2 fun _ e => e.elim); have HB2 := hid (HB1.out.fr f2 id)
  have HX2 := hid (HX1.out.fr f2 id)
  clear f2
  obtain ⟨T3, hT3⟩ : ∃ x, sb (kidN n 0).body = x := ⟨_, rfl⟩
  rw [hT3]
  have HT3 := hid hT3
  clear hT3
  go_wp2_with fail
  refine (pkidn_any 5 S2 bn n 1 y2 HR2.out (fun h => by have := HS2.out _ h; have := HBN.out; omega)).mono ?_
  rintro e y4 ⟨k4, rfl, hk4, hr4, f4⟩
  have HK4 := hid hk4; have HR4 := hid hr4; have HF4 := hid (HF2.out.trans f4 fun k e => .inr (by have e : k = bn := e; have := HBN.out; omega)); have HB4 := hid (HB2.out.fr f4 (fun e => by have e : bm = bn := e; have := HBN.out; have := HLM.out; omega))
  have HX4 := hid (HX2.out.fr f4 (fun e => by have e : w.heap.size = bn := e; have := HNX.out; omega))
  clear hk4 hr4 f4
  go_wp2_with fail
  refine (plistAt gpAt atOf 63 5 S2 (kidN n 1) _ y4 HK4.out (by have := HOK.out.kid 1; omega) (fun vs w => by kernel_rfl) (fun x hx c wv hx2 _ => pattrOf_any 4 S2 x c wv hx2 (by have := (ok_of_mem (HOK.out.kidK 1) hx).kid 1; omega))).mono ?_
  rintro e y5 ⟨v, rfl, hv, f5⟩
  have HR5 := hid (HR4.out.no f5); have HF5 := hid (HF4.out.trans f5 fun _ e => e.elim); have HB5 := hid (HB4.out.fr f5 id)
  have HX5 := hid (HX4.out.fr f5 id)
  have HV5 := hid hv
  obtain ⟨va5, vc5, rfl, -, -⟩ := hv.form
  obtain ⟨vl5, hvl⟩ : ∃ k, ((kidN n 1).kids.map atOf).length = k := ⟨_, rfl⟩
  rw [hvl] at HV5 ⊢
  clear hv hvl
  have HLB5 : Hid (bm < y4.heap.size ∧ bn < y4.heap.size) := hid (by have := HR4.out.lt; have := HB4.out.lt; omega)
  clear f5
  go_wp2_with (first
    | ((with_reducible refine K.atO (.store 9 _ _) ?_); (fail_if_success (have := HU0)); refine wpL_setV rfl _ _ _ rfl bm 3 (.string T3) rfl rfl rfl rfl _ _ HB5.out (by simp) infoS ?_; intro s_0 HY0 FU0 HW0; have HU0 := HY0)
    | ((with_reducible refine K.atO (.store 26 _ _) ?_); (fail_if_success (have := HU1)); (have := HU0); refine wpL_setV rfl _ _ _ rfl bm 18 (.slice va5 vl5 vc5) rfl rfl rfl rfl _ _ HU0.out (by simp) infoAts ?_; intro s_1 HY1 FU1 HW1; have HU1 := HY1; refine Hid.out ?_)
    | fail)
  have hs6 : Fr (fun k => k = bm) y5 s_1 := (FU0.out.trans' FU1.out)
  have HF6 := hid (HF5.out.trans' hs6); have HB6 := HU1
  have HR6 := hid (HR5.out.fr hs6 (fun i hi _ e => by have := HS2.out _ hi; have e : i = bm := e; omega) (fun e => by have e : bn = bm := e; have := HBN.out; have := HLM.out; omega))
  have HX6 := hid (HX5.out.fr hs6 (fun e => by have e : w.heap.size = bm := e; have := HLM.out; omega))
  have HKP7 := hid (HV5.out.fr hs6 (fun k hk _ e => by have h : y4.heap.size ≤ k := hk; have e : k = bm := e; have := HLB5.out; omega) (fun x c _ hx => hx.fr hs6 (fun k hk _ e => by have h : y4.heap.size ≤ k := hk; have e : k = bm := e; have := HLB5.out; omega)))
  clear hs6 HY0 FU0 HW0 HY1 FU1 HW1
  refine hid ?_
  go_wp2_with fail
  go_end0
  refine ⟨rfl, .slice none 0 0, .slice none 0 0, .slice none 0 0, .slice va5 vl5 vc5, .slice none 0 0, ?_, ⟨⟨HID.out, ⟨by have := HOT.out; show (-9223372036854775808 : Int) ≤ 104; omega, by have := HOT.out; show (104 : Int) ≤ _; omega⟩, i64z, i64z, i64z, i64z, i64z, i64z, i64z⟩, ⟨kid_szN HD.out 0, (Nat.zero_le _), (Nat.zero_le _), (Nat.zero_le _), (Nat.zero_le _), (Nat.zero_le _), (Nat.zero_le _), (Nat.zero_le _)⟩, ⟨_, _, rfl, i64z, (Nat.zero_le _), (Nat.zero_le _), (Nat.zero_le _), (Nat.zero_le _), tx_none _ _, ⟨none, 0, rfl, Nat.le_refl _, by show (0 : Nat) ≤ _; omega, .inl rfl⟩⟩, tx_none _ _, HKP7.out.monoS (fun k _ hk => Nat.le_trans HF4.out.size hk) (fun x c hx => gpAt.mono hx (fun k _ hk => Nat.le_trans HF4.out.size hk)), ⟨none, 0, rfl, Nat.le_refl _, by show (0 : Nat) ≤ _; omega, .inl rfl⟩⟩, HF6.out⟩
  have h := HB6.out
  rw [← HT3.out] at h
  exact h
set_option maxHeartbeats 16000000 in
theorem pro_100 (S : Nat → Prop) (bm : Nat) (mi : Int) (n : Nd) (cs : List Value) (w : World) (hn : NdAt 7 S w n cs) (hS : ¬ S bm) (hmi : I64 mi) (ho : okF 7 n) (hot : I64 (100)) (hB : Blk w bm 29 [.int .i64 mi, .int .i64 100, .int .i64 0, .string ⟨#[]⟩, .string ⟨#[]⟩, .int .i64 0, .int .i64 0, .int .i64 0, .int .i64 0, .bool false, .int .i64 0, .slice none 0 0, .string ⟨#[]⟩, .string ⟨#[]⟩, .string ⟨#[]⟩, .slice none 0 0, .string ⟨#[]⟩, .slice none 0 0, .slice none 0 0, .slice none 0 0, .string ⟨#[]⟩, .bool false, .bool false, .string ⟨#[]⟩, .string ⟨#[]⟩, .string ⟨#[]⟩, .int .i64 0, .int .i64 0, .string ⟨#[]⟩, .string ⟨#[]⟩])  :
    Calls Try.prog 31 #[.pointer (some ⟨bm, 0, none⟩), .agg cs.toArray] w (ReadOp bm ({ msg0 mi 100 with name := (kidN n 0).body, list := (kidN n 1).kids.map atOf }) w) := by
  obtain ⟨S2, hS2⟩ : ∃ S2 : Nat → Prop, S2 = fun k => S k ∧ k < w.heap.size := ⟨_, rfl⟩
  have HS2 : Hid (∀ k, S2 k → k < w.heap.size ∧ k ≠ bm) := hid (fun k hk => by rw [hS2] at hk; exact ⟨hk.2, fun e => hS (e ▸ hk.1)⟩)
  have HD : Hid (NdAt 7 S2 w n cs) := hid (nd_two hn (fun k hk h => by rw [hS2]; exact ⟨h, hk⟩))
  have HID := hid hmi; have HOK := hid ho; have HOT := hid hot; have HB0 := hid hB; have HLM := hid hB.lt
  have k1 : w.cell? ⟨bm, 1, none⟩ = some (.int .i64 100) := hB.cell 1
  obtain ⟨a, sc, hcs, -, -, -⟩ := hn.head
  clear hn hS hmi ho hot hB hS2
  subst hcs
  obtain ⟨bs, hbs⟩ : ∃ b, sb n.body = b := ⟨_, rfl⟩
  obtain ⟨tg, htg⟩ : ∃ t, n.tag = t := ⟨_, rfl⟩
  obtain ⟨kl, hkl⟩ : ∃ k, n.kids.length = k := ⟨_, rfl⟩
  rw [hbs, htg, hkl] at HD ⊢
  have HBS := hid hbs; have HKL := hid hkl
  clear hbs htg hkl
  go_enter Try.func31, Try.ntmps31
  go_wp2_with (first
    | ((with_reducible refine K.atO (.box 44 _) ?_); refine wpL_box rfl _ _ rfl _ rfl [.int .i64 tg, .string bs, .slice a kl sc] rfl ?_; intro w1 HB1 F1 HS1)
    | ((with_reducible refine K.atO (.load 44 _) ?_); refine wpL_load rfl _ _ rfl w.heap.size 0 rfl [.int .i64 tg, .string bs, .slice a kl sc] _ (HB1.out.range 0 _ rfl) rfl rfl infoN ?_)
    | fail)
  refine (pchildren_any 6 S2 n [.int .i64 tg, .string bs, .slice a kl sc] w1 (HD.out.no F1.out)).mono ?_
  rintro e w3 ⟨bn, rfl, hbn, hr, f3⟩
  have HBN : Hid (w.heap.size ≤ bn) := hid (Nat.le_trans F1.out.size hbn)
  have HNX : Hid (w.heap.size < bn) := hid (by have := HS1.out; omega)
  have HR0 := hid hr.start; have HF3 : Hid (Fr (fun k => k = bm) w w3) := hid ((F1.out.trans' f3).mono fun _ e => e.elim)
  have HBm := hid ((HB0.out.fr F1.out (fun e => e)).fr f3 (fun e => e)); have HBx := hid (HB1.out.fr f3 (fun e => e))
  have kop : w3.cell? ⟨bm, 1, none⟩ = some (.int .i64 100) := HBm.out.cell 1
  clear hbn hr f3 HB1 F1 HS1 HB0 k1
  go_wp2_with fail
  clear kop
  refine (pkidn_any 5 S2 bn n 0 w3 HR0.out (fun h => by have := HS2.out _ h; have := HBN.out; omega)).mono ?_
  rintro e y1 ⟨k1, rfl, hk1, hr1, f1⟩
  have HK1 := hid hk1; have HR1 := hid hr1; have HF1 := hid (HF3.out.trans f1 fun k e => .inr (by have e : k = bn := e; have := HBN.out; omega)); have HB1 := hid (HBm.out.fr f1 (fun e => by have e : bm = bn := e; have := HBN.out; have := HLM.out; omega))
  have HX1 := hid (HBx.out.fr f1 (fun e => by have e : w.heap.size = bn := e; have := HNX.out; omega))
  clear hk1 hr1 f1
  go_wp2_with fail
  refine (ptextOf_any _ _ _ _ y1 HK1.out).mono ?_
  rintro e y2 ⟨rfl, f2⟩
  have HR2 := hid (HR1.out.no f2); have HF2 := hid (HF1.out.trans f2 fun _ e => e.elim); have HB2 := hid (HB1.out.fr f2 id)
  have HX2 := hid (HX1.out.fr f2 id)
  clear f2
  obtain ⟨T3, hT3⟩ : ∃ x, sb (kidN n 0).body = x := ⟨_, rfl⟩
  rw [hT3]
  have HT3 := hid hT3
  clear hT3
  go_wp2_with fail
  refine (pkidn_any 5 S2 bn n 1 y2 HR2.out (fun h => by have := HS2.out _ h; have := HBN.out; omega)).mono ?_
  rintro e y4 ⟨k4, rfl, hk4, hr4, f4⟩
  have HK4 := hid hk4; have HR4 := hid hr4; have HF4 := hid (HF2.out.trans f4 fun k e => .inr (by have e : k = bn := e; have := HBN.out; omega)); have HB4 := hid (HB2.out.fr f4 (fun e => by have e : bm = bn := e; have := HBN.out; have := HLM.out; omega))
  have HX4 := hid (HX2.out.fr f4 (fun e => by have e : w.heap.size = bn := e; have := HNX.out; omega))
  clear hk4 hr4 f4
  go_wp2_with fail
  refine (plistAt gpAt atOf 63 5 S2 (kidN n 1) _ y4 HK4.out (by have := HOK.out.kid 1; omega) (fun vs w => by kernel_rfl) (fun x hx c wv hx2 _ => pattrOf_any 4 S2 x c wv hx2 (by have := (ok_of_mem (HOK.out.kidK 1) hx).kid 1; omega))).mono ?_
  rintro e y5 ⟨v, rfl, hv, f5⟩
  have HR5 := hid (HR4.out.no f5); have HF5 := hid (HF4.out.trans f5 fun _ e => e.elim); have HB5 := hid (HB4.out.fr f5 id)
  have HX5 := hid (HX4.out.fr f5 id)
  have HV5 := hid hv
  obtain ⟨va5, vc5, rfl, -, -⟩ := hv.form
  obtain ⟨vl5, hvl⟩ : ∃ k, ((kidN n 1).kids.map atOf).length = k := ⟨_, rfl⟩
  rw [hvl] at HV5 ⊢
  clear hv hvl
  have HLB5 : Hid (bm < y4.heap.size ∧ bn < y4.heap.size) := hid (by have := HR4.out.lt; have := HB4.out.lt; omega)
  clear f5
  go_wp2_with (first
    | ((with_reducible refine K.atO (.store 9 _ _) ?_); (fail_if_success (have := HU0)); refine wpL_setV rfl _ _ _ rfl bm 3 (.string T3) rfl rfl rfl rfl _ _ HB5.out (by simp) infoS ?_; intro s_0 HY0 FU0 HW0; have HU0 := HY0)
    | ((with_reducible refine K.atO (.store 26 _ _) ?_); (fail_if_success (have := HU1)); (have := HU0); refine wpL_setV rfl _ _ _ rfl bm 18 (.slice va5 vl5 vc5) rfl rfl rfl rfl _ _ HU0.out (by simp) infoAts ?_; intro s_1 HY1 FU1 HW1; have HU1 := HY1; refine Hid.out ?_)
    | fail)
  have hs6 : Fr (fun k => k = bm) y5 s_1 := (FU0.out.trans' FU1.out)
  have HF6 := hid (HF5.out.trans' hs6); have HB6 := HU1
  have HR6 := hid (HR5.out.fr hs6 (fun i hi _ e => by have := HS2.out _ hi; have e : i = bm := e; omega) (fun e => by have e : bn = bm := e; have := HBN.out; have := HLM.out; omega))
  have HX6 := hid (HX5.out.fr hs6 (fun e => by have e : w.heap.size = bm := e; have := HLM.out; omega))
  have HKP7 := hid (HV5.out.fr hs6 (fun k hk _ e => by have h : y4.heap.size ≤ k := hk; have e : k = bm := e; have := HLB5.out; omega) (fun x c _ hx => hx.fr hs6 (fun k hk _ e => by have h : y4.heap.size ≤ k := hk; have e : k = bm := e; have := HLB5.out; omega)))
  clear hs6 HY0 FU0 HW0 HY1 FU1 HW1
  refine hid ?_
  go_wp2_with fail
  go_end0
  refine ⟨rfl, .slice none 0 0, .slice none 0 0, .slice none 0 0, .slice va5 vl5 vc5, .slice none 0 0, ?_, ⟨⟨HID.out, ⟨by have := HOT.out; show (-9223372036854775808 : Int) ≤ 100; omega, by have := HOT.out; show (100 : Int) ≤ _; omega⟩, i64z, i64z, i64z, i64z, i64z, i64z, i64z⟩, ⟨kid_szN HD.out 0, (Nat.zero_le _), (Nat.zero_le _), (Nat.zero_le _), (Nat.zero_le _), (Nat.zero_le _), (Nat.zero_le _), (Nat.zero_le _)⟩, ⟨_, _, rfl, i64z, (Nat.zero_le _), (Nat.zero_le _), (Nat.zero_le _), (Nat.zero_le _), tx_none _ _, ⟨none, 0, rfl, Nat.le_refl _, by show (0 : Nat) ≤ _; omega, .inl rfl⟩⟩, tx_none _ _, HKP7.out.monoS (fun k _ hk => Nat.le_trans HF4.out.size hk) (fun x c hx => gpAt.mono hx (fun k _ hk => Nat.le_trans HF4.out.size hk)), ⟨none, 0, rfl, Nat.le_refl _, by show (0 : Nat) ≤ _; omega, .inl rfl⟩⟩, HF6.out⟩
  have h := HB6.out
  rw [← HT3.out] at h
  exact h
set_option maxHeartbeats 16000000 in
theorem pro_74 (S : Nat → Prop) (bm : Nat) (mi : Int) (n : Nd) (cs : List Value) (w : World) (hn : NdAt 7 S w n cs) (hS : ¬ S bm) (hmi : I64 mi) (ho : okF 7 n) (hot : I64 (74)) (hB : Blk w bm 29 [.int .i64 mi, .int .i64 74, .int .i64 0, .string ⟨#[]⟩, .string ⟨#[]⟩, .int .i64 0, .int .i64 0, .int .i64 0, .int .i64 0, .bool false, .int .i64 0, .slice none 0 0, .string ⟨#[]⟩, .string ⟨#[]⟩, .string ⟨#[]⟩, .slice none 0 0, .string ⟨#[]⟩, .slice none 0 0, .slice none 0 0, .slice none 0 0, .string ⟨#[]⟩, .bool false, .bool false, .string ⟨#[]⟩, .string ⟨#[]⟩, .string ⟨#[]⟩, .int .i64 0, .int .i64 0, .string ⟨#[]⟩, .string ⟨#[]⟩])  :
    Calls Try.prog 31 #[.pointer (some ⟨bm, 0, none⟩), .agg cs.toArray] w (ReadOp bm ({ msg0 mi 74 with name := n.body }) w) := by
  obtain ⟨S2, hS2⟩ : ∃ S2 : Nat → Prop, S2 = fun k => S k ∧ k < w.heap.size := ⟨_, rfl⟩
  have HS2 : Hid (∀ k, S2 k → k < w.heap.size ∧ k ≠ bm) := hid (fun k hk => by rw [hS2] at hk; exact ⟨hk.2, fun e => hS (e ▸ hk.1)⟩)
  have HD : Hid (NdAt 7 S2 w n cs) := hid (nd_two hn (fun k hk h => by rw [hS2]; exact ⟨h, hk⟩))
  have HID := hid hmi; have HOK := hid ho; have HOT := hid hot; have HB0 := hid hB; have HLM := hid hB.lt
  have k1 : w.cell? ⟨bm, 1, none⟩ = some (.int .i64 74) := hB.cell 1
  obtain ⟨a, sc, hcs, -, -, -⟩ := hn.head
  clear hn hS hmi ho hot hB hS2
  subst hcs
  obtain ⟨bs, hbs⟩ : ∃ b, sb n.body = b := ⟨_, rfl⟩
  obtain ⟨tg, htg⟩ : ∃ t, n.tag = t := ⟨_, rfl⟩
  obtain ⟨kl, hkl⟩ : ∃ k, n.kids.length = k := ⟨_, rfl⟩
  rw [hbs, htg, hkl] at HD ⊢
  have HBS := hid hbs; have HKL := hid hkl
  clear hbs htg hkl
  go_enter Try.func31, Try.ntmps31
  go_wp2_with (first
    | ((with_reducible refine K.atO (.box 44 _) ?_); refine wpL_box rfl _ _ rfl _ rfl [.int .i64 tg, .string bs, .slice a kl sc] rfl ?_; intro w1 HB1 F1 HS1)
    | ((with_reducible refine K.atO (.load 44 _) ?_); refine wpL_load rfl _ _ rfl w.heap.size 0 rfl [.int .i64 tg, .string bs, .slice a kl sc] _ (HB1.out.range 0 _ rfl) rfl rfl infoN ?_)
    | fail)
  refine (pchildren_any 6 S2 n [.int .i64 tg, .string bs, .slice a kl sc] w1 (HD.out.no F1.out)).mono ?_
  rintro e w3 ⟨bn, rfl, hbn, hr, f3⟩
  have HBN : Hid (w.heap.size ≤ bn) := hid (Nat.le_trans F1.out.size hbn)
  have HNX : Hid (w.heap.size < bn) := hid (by have := HS1.out; omega)
  have HR0 := hid hr.start; have HF3 : Hid (Fr (fun k => k = bm) w w3) := hid ((F1.out.trans' f3).mono fun _ e => e.elim)
  have HBm := hid ((HB0.out.fr F1.out (fun e => e)).fr f3 (fun e => e)); have HBx := hid (HB1.out.fr f3 (fun e => e))
  have kop : w3.cell? ⟨bm, 1, none⟩ = some (.int .i64 74) := HBm.out.cell 1
  clear hbn hr f3 HB1 F1 HS1 HB0 k1
  go_wp2_with (first
    | ((with_reducible refine K.atO (.load 44 _) ?_); refine wpL_load rfl _ _ rfl w.heap.size 0 rfl [.int .i64 tg, .string bs, .slice a kl sc] _ (HBx.out.range 0 _ rfl) rfl rfl infoN ?_)
    | fail)
  clear kop
  refine (ptextOf_any _ S2 n [.int .i64 tg, .string bs, .slice a kl sc] w3 (NdAt.fr HF3.out (fun k hk _ e => (HS2.out k hk).2 e) HD.out)).mono ?_
  rintro e y1 ⟨rfl, f1⟩
  have HR1 := hid (HR0.out.no f1); have HF1 := hid (HF3.out.trans f1 fun _ e => e.elim); have HB1 := hid (HBm.out.fr f1 id)
  have HX1 := hid (HBx.out.fr f1 id)
  clear f1
  obtain ⟨T2, hT2⟩ : ∃ x, sb n.body = x := ⟨_, rfl⟩
  rw [hT2]
  have HT2 := hid hT2
  clear hT2
  go_wp2_with (first
    | ((with_reducible refine K.atO (.store 9 _ _) ?_); (fail_if_success (have := HU0)); refine wpL_setV rfl _ _ _ rfl bm 3 (.string T2) rfl rfl rfl rfl _ _ HB1.out (by simp) infoS ?_; intro s_0 HY0 FU0 HW0; have HU0 := HY0; refine Hid.out ?_)
    | fail)
  have hs3 : Fr (fun k => k = bm) y1 s_0 := FU0.out
  have HF3 := hid (HF1.out.trans' hs3); have HB3 := HU0
  have HR3 := hid (HR1.out.fr hs3 (fun i hi _ e => by have := HS2.out _ hi; have e : i = bm := e; omega) (fun e => by have e : bn = bm := e; have := HBN.out; have := HLM.out; omega))
  have HX3 := hid (HX1.out.fr hs3 (fun e => by have e : w.heap.size = bm := e; have := HLM.out; omega))
  clear hs3 HY0 FU0 HW0
  refine hid ?_
  go_wp2_with fail
  go_end0
  refine ⟨rfl, .slice none 0 0, .slice none 0 0, .slice none 0 0, .slice none 0 0, .slice none 0 0, ?_, ⟨⟨HID.out, ⟨by have := HOT.out; show (-9223372036854775808 : Int) ≤ 74; omega, by have := HOT.out; show (74 : Int) ≤ _; omega⟩, i64z, i64z, i64z, i64z, i64z, i64z, i64z⟩, ⟨kid_sz HD.out, (Nat.zero_le _), (Nat.zero_le _), (Nat.zero_le _), (Nat.zero_le _), (Nat.zero_le _), (Nat.zero_le _), (Nat.zero_le _)⟩, ⟨_, _, rfl, i64z, (Nat.zero_le _), (Nat.zero_le _), (Nat.zero_le _), (Nat.zero_le _), tx_none _ _, ⟨none, 0, rfl, Nat.le_refl _, by show (0 : Nat) ≤ _; omega, .inl rfl⟩⟩, tx_none _ _, ⟨none, 0, rfl, Nat.le_refl _, by show (0 : Nat) ≤ _; omega, .inl rfl⟩, ⟨none, 0, rfl, Nat.le_refl _, by show (0 : Nat) ≤ _; omega, .inl rfl⟩⟩, HF3.out⟩
  have h := HB3.out
  rw [← HT2.out] at h
  exact h
set_option maxHeartbeats 16000000 in
theorem pro_108 (S : Nat → Prop) (bm : Nat) (mi : Int) (n : Nd) (cs : List Value) (w : World) (hn : NdAt 7 S w n cs) (hS : ¬ S bm) (hmi : I64 mi) (ho : okF 7 n) (hot : I64 (108)) (hB : Blk w bm 29 [.int .i64 mi, .int .i64 108, .int .i64 0, .string ⟨#[]⟩, .string ⟨#[]⟩, .int .i64 0, .int .i64 0, .int .i64 0, .int .i64 0, .bool false, .int .i64 0, .slice none 0 0, .string ⟨#[]⟩, .string ⟨#[]⟩, .string ⟨#[]⟩, .slice none 0 0, .string ⟨#[]⟩, .slice none 0 0, .slice none 0 0, .slice none 0 0, .string ⟨#[]⟩, .bool false, .bool false, .string ⟨#[]⟩, .string ⟨#[]⟩, .string ⟨#[]⟩, .int .i64 0, .int .i64 0, .string ⟨#[]⟩, .string ⟨#[]⟩])  :
    Calls Try.prog 31 #[.pointer (some ⟨bm, 0, none⟩), .agg cs.toArray] w (ReadOp bm ({ msg0 mi 108 with name := (kidN n 0).body, rdn := (kidN n 1).body, dropOld := decide ((kidN n 2).body = [255]), sup := (kidN n 3).body, moves := decide (3 < n.kids.length) }) w) := by
  obtain ⟨S2, hS2⟩ : ∃ S2 : Nat → Prop, S2 = fun k => S k ∧ k < w.heap.size := ⟨_, rfl⟩
  have HS2 : Hid (∀ k, S2 k → k < w.heap.size ∧ k ≠ bm) := hid (fun k hk => by rw [hS2] at hk; exact ⟨hk.2, fun e => hS (e ▸ hk.1)⟩)
  have HD : Hid (NdAt 7 S2 w n cs) := hid (nd_two hn (fun k hk h => by rw [hS2]; exact ⟨h, hk⟩))
  have HID := hid hmi; have HOK := hid ho; have HOT := hid hot; have HB0 := hid hB; have HLM := hid hB.lt
  have k1 : w.cell? ⟨bm, 1, none⟩ = some (.int .i64 108) := hB.cell 1
  obtain ⟨a, sc, hcs, -, -, -⟩ := hn.head
  clear hn hS hmi ho hot hB hS2
  subst hcs
  obtain ⟨bs, hbs⟩ : ∃ b, sb n.body = b := ⟨_, rfl⟩
  obtain ⟨tg, htg⟩ : ∃ t, n.tag = t := ⟨_, rfl⟩
  obtain ⟨kl, hkl⟩ : ∃ k, n.kids.length = k := ⟨_, rfl⟩
  rw [hbs, htg, hkl] at HD ⊢
  have HBS := hid hbs; have HKL := hid hkl
  clear hbs htg hkl
  go_enter Try.func31, Try.ntmps31
  go_wp2_with (first
    | ((with_reducible refine K.atO (.box 44 _) ?_); refine wpL_box rfl _ _ rfl _ rfl [.int .i64 tg, .string bs, .slice a kl sc] rfl ?_; intro w1 HB1 F1 HS1)
    | ((with_reducible refine K.atO (.load 44 _) ?_); refine wpL_load rfl _ _ rfl w.heap.size 0 rfl [.int .i64 tg, .string bs, .slice a kl sc] _ (HB1.out.range 0 _ rfl) rfl rfl infoN ?_)
    | fail)
  refine (pchildren_any 6 S2 n [.int .i64 tg, .string bs, .slice a kl sc] w1 (HD.out.no F1.out)).mono ?_
  rintro e w3 ⟨bn, rfl, hbn, hr, f3⟩
  have HBN : Hid (w.heap.size ≤ bn) := hid (Nat.le_trans F1.out.size hbn)
  have HNX : Hid (w.heap.size < bn) := hid (by have := HS1.out; omega)
  have HR0 := hid hr.start; have HF3 : Hid (Fr (fun k => k = bm) w w3) := hid ((F1.out.trans' f3).mono fun _ e => e.elim)
  have HBm := hid ((HB0.out.fr F1.out (fun e => e)).fr f3 (fun e => e)); have HBx := hid (HB1.out.fr f3 (fun e => e))
  have kop : w3.cell? ⟨bm, 1, none⟩ = some (.int .i64 108) := HBm.out.cell 1
  clear hbn hr f3 HB1 F1 HS1 HB0 k1
  go_wp2_with fail
  clear kop
  refine (pkidn_any 5 S2 bn n 0 w3 HR0.out (fun h => by have := HS2.out _ h; have := HBN.out; omega)).mono ?_
  rintro e y1 ⟨k1, rfl, hk1, hr1, f1⟩
  have HK1 := hid hk1; have HR1 := hid hr1; have HF1 := hid (HF3.out.trans f1 fun k e => .inr (by have e : k = bn := e; have := HBN.out; omega)); have HB1 := hid (HBm.out.fr f1 (fun e => by have e : bm = bn := e; have := HBN.out; have := HLM.out; omega))
  have HX1 := hid (HBx.out.fr f1 (fun e => by have e : w.heap.size = bn := e; have := HNX.out; omega))
  clear hk1 hr1 f1
  go_wp2_with fail
  refine (ptextOf_any _ _ _ _ y1 HK1.out).mono ?_
  rintro e y2 ⟨rfl, f2⟩
  have HR2 := hid (HR1.out.no f2); have HF2 := hid (HF1.out.trans f2 fun _ e => e.elim); have HB2 := hid (HB1.out.fr f2 id)
  have HX2 := hid (HX1.out.fr f2 id)
  clear f2
  obtain ⟨T3, hT3⟩ : ∃ x, sb (kidN n 0).body = x := ⟨_, rfl⟩
  rw [hT3]
  have HT3 := hid hT3
  clear hT3
  go_wp2_with fail
  refine (pkidn_any 5 S2 bn n 1 y2 HR2.out (fun h => by have := HS2.out _ h; have := HBN.out; omega)).mono ?_
  rintro e y4 ⟨k4, rfl, hk4, hr4, f4⟩
  have HK4 := hid hk4; have HR4 := hid hr4; have HF4 := hid (HF2.out.trans f4 fun k e => .inr (by have e : k = bn := e; have := HBN.out; omega)); have HB4 := hid (HB2.out.fr f4 (fun e => by have e : bm = bn := e; have := HBN.out; have := HLM.out; omega))
  have HX4 := hid (HX2.out.fr f4 (fun e => by have e : w.heap.size = bn := e; have := HNX.out; omega))
  clear hk4 hr4 f4
  go_wp2_with fail
  refine (ptextOf_any _ _ _ _ y4 HK4.out).mono ?_
  rintro e y5 ⟨rfl, f5⟩
  have HR5 := hid (HR4.out.no f5); have HF5 := hid (HF4.out.trans f5 fun _ e => e.elim); have HB5 := hid (HB4.out.fr f5 id)
  have HX5 := hid (HX4.out.fr f5 id)
  clear f5
  obtain ⟨T6, hT6⟩ : ∃ x, sb (kidN n 1).body = x := ⟨_, rfl⟩
  rw [hT6]
  have HT6 := hid hT6
  clear hT6
  go_wp2_with fail
  refine (pkidn_any 5 S2 bn n 2 y5 HR5.out (fun h => by have := HS2.out _ h; have := HBN.out; omega)).mono ?_
  rintro e y7 ⟨k7, rfl, hk7, hr7, f7⟩
  have HK7 := hid hk7; have HR7 := hid hr7; have HF7 := hid (HF5.out.trans f7 fun k e => .inr (by have e : k = bn := e; have := HBN.out; omega)); have HB7 := hid (HB5.out.fr f7 (fun e => by have e : bm = bn := e; have := HBN.out; have := HLM.out; omega))
  have HX7 := hid (HX5.out.fr f7 (fun e => by have e : w.heap.size = bn := e; have := HNX.out; omega))
  clear hk7 hr7 f7
  go_wp2_with fail
  refine (ptruthOf_any _ _ _ _ y7 HK7.out).mono ?_
  rintro e y8 ⟨rfl, f8⟩
  have HR8 := hid (HR7.out.no f8); have HF8 := hid (HF7.out.trans f8 fun _ e => e.elim); have HB8 := hid (HB7.out.fr f8 id)
  have HX8 := hid (HX7.out.fr f8 id)
  clear f8
  obtain ⟨Q9, hQ9⟩ : ∃ x, decide ((kidN n 2).body = [255]) = x := ⟨_, rfl⟩
  rw [hQ9]
  have HQ9 := hid hQ9
  clear hQ9
  go_wp2_with (first
    | ((with_reducible refine K.atO (.store 9 _ _) ?_); (fail_if_success (have := HU0)); refine wpL_setV rfl _ _ _ rfl bm 3 (.string T3) rfl rfl rfl rfl _ _ HB8.out (by simp) infoS ?_; intro s_0 HY0 FU0 HW0; have HU0 := HY0)
    | ((with_reducible refine K.atO (.store 9 _ _) ?_); (fail_if_success (have := HU1)); (have := HU0); refine wpL_setV rfl _ _ _ rfl bm 20 (.string T6) rfl rfl rfl rfl _ _ HU0.out (by simp) infoS ?_; intro s_1 HY1 FU1 HW1; have HU1 := HY1)
    | ((with_reducible refine K.atO (.store 4 _ _) ?_); (fail_if_success (have := HU2)); (have := HU1); refine wpL_setV rfl _ _ _ rfl bm 21 (.bool Q9) rfl rfl rfl rfl _ _ HU1.out (by simp) infoI1 ?_; intro s_2 HY2 FU2 HW2; have HU2 := HY2; refine Hid.out ?_)
    | fail)
  have hs10 : Fr (fun k => k = bm) y8 s_2 := ((FU0.out.trans' FU1.out).trans' FU2.out)
  have HF10 := hid (HF8.out.trans' hs10); have HB10 := HU2
  have HR10 := hid (HR8.out.fr hs10 (fun i hi _ e => by have := HS2.out _ hi; have e : i = bm := e; omega) (fun e => by have e : bn = bm := e; have := HBN.out; have := HLM.out; omega))
  have HX10 := hid (HX8.out.fr hs10 (fun e => by have e : w.heap.size = bm := e; have := HLM.out; omega))
  clear hs10 HY0 FU0 HW0 HY1 FU1 HW1 HY2 FU2 HW2
  refine hid ?_
  go_wp2_with fail
  have kbx : s_2.cell? ⟨w.heap.size, 2, none⟩ = some (.slice a kl sc) := HX10.out.cell 2
  have hold : Facts.hold [(3, fun w' => w'.cell? ⟨w.heap.size, 2, none⟩ = some (.slice a kl sc))] s_2.drew := Facts.cons_hold kbx (Facts.nil_hold _)
  refine wpD_region hold (by kernel_rfl) 15 rfl ?_
  (refine wpD_plain 0 (v := ?_) rfl (by kernel_rfl) (by kernel_rfl) (by kernel_rfl) (fun _ _ _ h => h) (by rfl) ?_ (by assumption) ?_; rotate_left; (intro _w; go_simp; try with_reducible rfl); simp only [Act.put, K.put3])
  (refine wpD_plain 1 (v := ?_) rfl (by kernel_rfl) (by kernel_rfl) (by kernel_rfl) (fun _ _ _ h => h) (by rfl) ?_ (by assumption) ?_; rotate_left; (intro _w; go_simp; try with_reducible rfl); simp only [Act.put, K.put3])
  (refine wpD_plain 2 (v := ?_) rfl (by kernel_rfl) (by kernel_rfl) (by kernel_rfl) (fun _ _ _ h => h) (by rfl) ?_ (by assumption) ?_; rotate_left; (intro _w; go_simp; try with_reducible rfl); simp only [Act.put, K.put3])
  (refine wpD_take 3 _ rfl (by kernel_rfl) (by kernel_rfl) (by kernel_rfl) (fun _ _ _ h => h) List.mem_cons_self (by rfl) (v := ?_) ?_ (by assumption) ?_; rotate_left; (intro _w _hw; go_simp; try with_reducible rfl); simp only [Act.put, K.put3])
  (refine wpD_plain 4 (v := ?_) rfl (by kernel_rfl) (by kernel_rfl) (by kernel_rfl) (fun _ _ _ h => h) (by rfl) ?_ (by assumption) ?_; rotate_left; (intro _w; go_simp; try with_reducible rfl); simp only [Act.put, K.put3])
  (refine wpD_plain 5 (v := ?_) rfl (by kernel_rfl) (by kernel_rfl) (by kernel_rfl) (fun _ _ _ h => h) (by rfl) ?_ (by assumption) ?_; rotate_left; (intro _w; go_simp; try with_reducible rfl); simp only [Act.put, K.put3])
  obtain ⟨MV, hMV⟩ : ∃ b, decide (3 < kl) = b := ⟨_, rfl⟩
  have hMV2 : decide ((3 : Int) < (kl : Int)) = MV := by rw [← hMV]; exact decide_eq_decide.2 (by omega)
  try rw [hMV2]
  try rw [hMV]
  have HMV := hid hMV
  clear hMV hMV2
  (refine wpD_plain 6 (v := ?_) rfl (by kernel_rfl) (by kernel_rfl) (by kernel_rfl) (fun _ _ _ h => h) (by rfl) ?_ (by assumption) ?_; rotate_left; (intro _w; go_simp; try with_reducible rfl); simp only [Act.put, K.put3])
  clear hold
  refine wpD_only 7 [(3, fun w' => w'.cell? ⟨w.heap.size, 2, none⟩ = some (.slice a kl sc))] rfl (by kernel_rfl) (by kernel_rfl) (by rfl) (fun K7 hK7 => ?_)
  refine wp_call _ _ _ rfl 54 [.pointer (some ⟨bn, 0, none⟩)] rfl (fun vs w => by kernel_rfl) [.pointer (some ⟨bn, 0, none⟩)] (by rfl) ?_
  refine (pkidn_any 5 S2 bn n 3 s_2.drew (HR10.out.no (Fr.refl No _).drew) (fun h => by have := HS2.out _ h; have := HBN.out; omega)).mono ?_
  rintro e m1 ⟨km, rfl, hkm, hrm, fm⟩
  have hfm : Fr (fun k => k = bn) s_2 m1 := ((Fr.refl (fun k => k = bn) s_2).drew).trans' fm
  have kbx1 : m1.cell? ⟨w.heap.size, 2, none⟩ = some (.slice a kl sc) := hfm.cell kbx (fun e => by have e : w.heap.size = bn := e; have := HNX.out; omega)
  refine ⟨_, rfl, hK7 _ _ (Facts.cons_hold kbx1 (Facts.nil_hold _)) ?_⟩
  have HKm := hid hkm; have HRm := hid hrm; have HFm := hid (HF10.out.trans hfm fun k e => .inr (by have e : k = bn := e; have := HBN.out; omega)); have HBm1 := hid (HB10.out.fr hfm (fun e => by have e : bm = bn := e; have := HBN.out; have := HLM.out; omega)); have HXm := hid (HX10.out.fr hfm (fun e => by have e : w.heap.size = bn := e; have := HNX.out; omega))
  clear hK7 K7 hkm hrm fm hfm kbx
  simp only [Act.put, K.put3]
  refine wpD_only 8 [(3, fun w' => w'.cell? ⟨w.heap.size, 2, none⟩ = some (.slice a kl sc))] rfl (by kernel_rfl) (by kernel_rfl) (by rfl) (fun K8 hK8 => ?_)
  refine wp_call _ _ _ rfl 56 [] rfl (fun vs w => by kernel_rfl) [.agg km.toArray] (by rfl) ?_
  refine (ptextOf_any _ _ _ _ m1 HKm.out).mono ?_
  rintro e m2 ⟨rfl, fm2⟩
  have kbx2 : m2.cell? ⟨w.heap.size, 2, none⟩ = some (.slice a kl sc) := fm2.cell kbx1 (fun e => e)
  refine ⟨_, rfl, hK8 _ _ (Facts.cons_hold kbx2 (Facts.nil_hold _)) ?_⟩
  have HRm2 := hid (HRm.out.no fm2); have HFm2 := hid (HFm.out.trans fm2 fun _ e => e.elim); have HBm2 := hid (HBm1.out.fr fm2 (fun e => e)); have HXm2 := hid (HXm.out.fr fm2 (fun e => e))
  clear hK8 K8 fm2 kbx1
  simp only [Act.put, K.put3]
  obtain ⟨T11, hT11⟩ : ∃ x, sb (kidN n 3).body = x := ⟨_, rfl⟩
  rw [hT11]
  have HT11 := hid hT11
  clear hT11
  have hold : Facts.hold [(3, fun w' => w'.cell? ⟨w.heap.size, 2, none⟩ = some (.slice a kl sc))] m2 := Facts.cons_hold kbx2 (Facts.nil_hold _)
  (refine wpD_plain 9 (v := ?_) rfl (by kernel_rfl) (by kernel_rfl) (by kernel_rfl) (fun _ _ _ h => h) (by rfl) ?_ (by assumption) ?_; rotate_left; (intro _w; go_simp; try with_reducible rfl); simp only [Act.put, K.put3])
  (refine wpD_plain 10 (v := ?_) rfl (by kernel_rfl) (by kernel_rfl) (by kernel_rfl) (fun _ _ _ h => h) (by rfl) ?_ (by assumption) ?_; rotate_left; (intro _w; go_simp; try with_reducible rfl); simp only [Act.put, K.put3])
  clear hold
  refine wpD_only 11 [] rfl (by kernel_rfl) (by kernel_rfl) (by rfl) (fun K11 hK11 => ?_)
  refine wp_storeV _ _ _ rfl bm 22 (.bool MV) [.bool MV] rfl rfl rfl _ _ HBm2.out (by simp) infoI1 (by intro u hu; simp at hu; subst hu; rfl) ?_
  intro q11 HY11 FQ11 HW11
  have HQ11 : Hid (Blk q11 bm 29 [.int .i64 mi, .int .i64 108, .int .i64 0, .string T3, .string ⟨#[]⟩, .int .i64 0, .int .i64 0, .int .i64 0, .int .i64 0, .bool false, .int .i64 0, .slice none 0 0, .string ⟨#[]⟩, .string ⟨#[]⟩, .string ⟨#[]⟩, .slice none 0 0, .string ⟨#[]⟩, .slice none 0 0, .slice none 0 0, .slice none 0 0, .string T6, .bool Q9, .bool MV, .string ⟨#[]⟩, .string ⟨#[]⟩, .string ⟨#[]⟩, .int .i64 0, .int .i64 0, .string ⟨#[]⟩, .string ⟨#[]⟩]) := hid HY11.out
  refine hK11 _ _ (Facts.nil_hold _) ?_
  clear hK11 K11
  simp only [Act.put, K.put3]
  have hold : Facts.hold [] q11 := Facts.nil_hold _
  (refine wpD_plain 12 (v := ?_) rfl (by kernel_rfl) (by kernel_rfl) (by kernel_rfl) (fun _ _ _ h => h) (by rfl) ?_ (by assumption) ?_; rotate_left; (intro _w; go_simp; try with_reducible rfl); simp only [Act.put, K.put3])
  (refine wpD_plain 13 (v := ?_) rfl (by kernel_rfl) (by kernel_rfl) (by kernel_rfl) (fun _ _ _ h => h) (by rfl) ?_ (by assumption) ?_; rotate_left; (intro _w; go_simp; try with_reducible rfl); simp only [Act.put, K.put3])
  clear hold
  refine wpD_only 14 [] rfl (by kernel_rfl) (by kernel_rfl) (by rfl) (fun K14 hK14 => ?_)
  refine wp_storeV _ _ _ rfl bm 23 (.string T11) [.string T11] rfl rfl rfl _ _ HQ11.out (by simp) infoS (by intro u hu; simp at hu; subst hu; rfl) ?_
  intro q14 HY14 FQ14 HW14
  have HQ14 : Hid (Blk q14 bm 29 [.int .i64 mi, .int .i64 108, .int .i64 0, .string T3, .string ⟨#[]⟩, .int .i64 0, .int .i64 0, .int .i64 0, .int .i64 0, .bool false, .int .i64 0, .slice none 0 0, .string ⟨#[]⟩, .string ⟨#[]⟩, .string ⟨#[]⟩, .slice none 0 0, .string ⟨#[]⟩, .slice none 0 0, .slice none 0 0, .slice none 0 0, .string T6, .bool Q9, .bool MV, .string T11, .string ⟨#[]⟩, .string ⟨#[]⟩, .int .i64 0, .int .i64 0, .string ⟨#[]⟩, .string ⟨#[]⟩]) := hid HY14.out
  refine hK14 _ _ (Facts.nil_hold _) ?_
  clear hK14 K14
  simp only [Act.put, K.put3]
  refine wpD_done (by kernel_rfl) ?_ _
  have HFz := hid ((HFm2.out.trans' FQ11.out).trans' FQ14.out)
  clear HY11 FQ11 HW11 HY14 FQ14 HW14 kbx2
  go_wp2_with fail
  go_end0
  refine ⟨rfl, .slice none 0 0, .slice none 0 0, .slice none 0 0, .slice none 0 0, .slice none 0 0, ?_, ⟨⟨HID.out, ⟨by have := HOT.out; show (-9223372036854775808 : Int) ≤ 108; omega, by have := HOT.out; show (108 : Int) ≤ _; omega⟩, i64z, i64z, i64z, i64z, i64z, i64z, i64z⟩, ⟨kid_szN HD.out 0, (Nat.zero_le _), kid_szN HD.out 1, kid_szN HD.out 3, (Nat.zero_le _), (Nat.zero_le _), (Nat.zero_le _), (Nat.zero_le _)⟩, ⟨_, _, rfl, i64z, (Nat.zero_le _), (Nat.zero_le _), (Nat.zero_le _), (Nat.zero_le _), tx_none _ _, ⟨none, 0, rfl, Nat.le_refl _, by show (0 : Nat) ≤ _; omega, .inl rfl⟩⟩, tx_none _ _, ⟨none, 0, rfl, Nat.le_refl _, by show (0 : Nat) ≤ _; omega, .inl rfl⟩, ⟨none, 0, rfl, Nat.le_refl _, by show (0 : Nat) ≤ _; omega, .inl rfl⟩⟩, HFz.out⟩
  have h := HQ14.out
  rw [← HT3.out, ← HT6.out, ← HQ9.out, ← HT11.out] at h
  exact h
end Go.Proofs.Ythjmkfpdbbfcpaa.ME
