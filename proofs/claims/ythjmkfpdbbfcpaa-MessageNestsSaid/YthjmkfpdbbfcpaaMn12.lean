/-
  Part 12 of the proof: MpH, MpY0, MpY1.
-/
import Derived.Test.YthjmkfpdbbfcpaaMn11
import Derived.Test.YthjmkfpdbbfcpaaMn09
set_option linter.unusedSimpArgs false
set_option linter.unusedVariables false
namespace Go.Proofs.Ythjmkfpdbbfcpaa.ME
set_option maxRecDepth 100000
open Go.RowKit K Go.Proofs.Ythjmkfpdbbfcpaa.BE Go.Proofs.Ythjmkfpdbbfcpaa.FR

theorem infoI1 : (Try.prog.info? 4).map (·.size) = some 1 := by kernel_rfl
theorem infoAts : (Try.prog.info? 26).map (·.size) = some 1 := by kernel_rfl
theorem infoMos : (Try.prog.info? 27).map (·.size) = some 1 := by kernel_rfl
def searchOk (m : Msg) : Bool := inI m.scope 0 2 && inI m.deref 0 3 && inI m.size 0 2147483647 && inI m.time 0 2147483647 && rightF 6 m.filter
set_option maxHeartbeats 8000000 in
theorem psearch_any (M : Nat) (E : Nat → Prop) (m : Msg) (vk va vw vl vm : Value) (w : World) (h : MsgC M E w m vk va vw vl vm) (hop : m.op = 99) : Calls Try.prog 34 #[.agg (mcs m vk va vw vl vm).toArray] w fun e w' => e = .returned (.bool (searchOk m)) ∧ Fr No w w' := by
  have H := hid h.filter
  have e : mcs m vk va vw vl vm = [.int .i64 m.id, .int .i64 99, .int .i64 m.ver, .string (sb m.name), .string (sb m.pw), .int .i64 m.scope, .int .i64 m.deref, .int .i64 m.size, .int .i64 m.time, .bool m.typesOnly, .int .i64 m.filter.kind, vk, .string (sb m.filter.type), .string (sb m.filter.value), .string (sb m.filter.first), va, .string (sb m.filter.last), vw, vl, vm, .string (sb m.rdn), .bool m.dropOld, .bool m.moves, .string (sb m.sup), .string (sb m.type), .string (sb m.value), .int .i64 m.target, .int .i64 m.code, .string (sb m.matched), .string (sb m.text)] := by unfold mcs; rw [hop]
  rw [e]
  clear e hop h
  unfold searchOk
  obtain ⟨b0, hb0⟩ : ∃ b, inI m.scope 0 2 = b := ⟨_, rfl⟩
  rw [hb0]
  have HB_0 := hid hb0
  clear hb0
  obtain ⟨b1, hb1⟩ : ∃ b, inI m.deref 0 3 = b := ⟨_, rfl⟩
  rw [hb1]
  have HB_1 := hid hb1
  clear hb1
  obtain ⟨b2, hb2⟩ : ∃ b, inI m.size 0 2147483647 = b := ⟨_, rfl⟩
  rw [hb2]
  have HB_2 := hid hb2
  clear hb2
  obtain ⟨b3, hb3⟩ : ∃ b, inI m.time 0 2147483647 = b := ⟨_, rfl⟩
  rw [hb3]
  have HB_3 := hid hb3
  clear hb3
  obtain ⟨b4, hb4⟩ : ∃ b, rightF 6 m.filter = b := ⟨_, rfl⟩
  rw [hb4]
  have HB_4 := hid hb4
  clear hb4
  go_enter Try.func34, Try.ntmps34
  go_wp2_with (first
    | ((with_reducible refine K.atO (.box 29 _) ?_); refine wpL_box rfl _ _ rfl _ rfl [.int .i64 m.id, .int .i64 99, .int .i64 m.ver, .string (sb m.name), .string (sb m.pw), .int .i64 m.scope, .int .i64 m.deref, .int .i64 m.size, .int .i64 m.time, .bool m.typesOnly, .int .i64 m.filter.kind, vk, .string (sb m.filter.type), .string (sb m.filter.value), .string (sb m.filter.first), va, .string (sb m.filter.last), vw, vl, vm, .string (sb m.rdn), .bool m.dropOld, .bool m.moves, .string (sb m.sup), .string (sb m.type), .string (sb m.value), .int .i64 m.target, .int .i64 m.code, .string (sb m.matched), .string (sb m.text)] rfl ?_; intro w1 HB1 F1 HS1; have c5 : w1.cell? ⟨w.heap.size, 5, none⟩ = some (.int .i64 m.scope) := HB1.out.cell 5; have c6 : w1.cell? ⟨w.heap.size, 6, none⟩ = some (.int .i64 m.deref) := HB1.out.cell 6; have c7 : w1.cell? ⟨w.heap.size, 7, none⟩ = some (.int .i64 m.size) := HB1.out.cell 7; have c8 : w1.cell? ⟨w.heap.size, 8, none⟩ = some (.int .i64 m.time) := HB1.out.cell 8; have c10 : w1.cell? ⟨w.heap.size, 10, none⟩ = some (.int .i64 m.filter.kind) := HB1.out.cell 10; have c11 : w1.cell? ⟨w.heap.size, 11, none⟩ = some (vk) := HB1.out.cell 11; have c12 : w1.cell? ⟨w.heap.size, 12, none⟩ = some (.string (sb m.filter.type)) := HB1.out.cell 12; have c13 : w1.cell? ⟨w.heap.size, 13, none⟩ = some (.string (sb m.filter.value)) := HB1.out.cell 13; have c14 : w1.cell? ⟨w.heap.size, 14, none⟩ = some (.string (sb m.filter.first)) := HB1.out.cell 14; have c15 : w1.cell? ⟨w.heap.size, 15, none⟩ = some (va) := HB1.out.cell 15; have c16 : w1.cell? ⟨w.heap.size, 16, none⟩ = some (.string (sb m.filter.last)) := HB1.out.cell 16)
    | fail)
  refine (pfrom_any m.scope 0 2 w1).mono ?_
  rintro e x0 ⟨rfl, hx0⟩
  have hy0 := hx0.symm
  subst hy0
  rw [HB_0.out]
  cases b0 with
  | false =>
    go_wp2_with fail
    go_ret
    exact ⟨by simp, F1.out⟩
  | true =>
  go_wp2_with fail
  refine (pfrom_any m.deref 0 3 w1).mono ?_
  rintro e x1 ⟨rfl, hx1⟩
  have hy1 := hx1.symm
  subst hy1
  rw [HB_1.out]
  cases b1 with
  | false =>
    go_wp2_with fail
    go_ret
    exact ⟨by simp, F1.out⟩
  | true =>
  go_wp2_with fail
  refine (pnumber_any m.size w1).mono ?_
  rintro e x2 ⟨rfl, hx2⟩
  have hy2 := hx2.symm
  subst hy2
  rw [HB_2.out]
  cases b2 with
  | false =>
    go_wp2_with fail
    go_ret
    exact ⟨by simp, F1.out⟩
  | true =>
  go_wp2_with fail
  refine (pnumber_any m.time w1).mono ?_
  rintro e x3 ⟨rfl, hx3⟩
  have hy3 := hx3.symm
  subst hy3
  rw [HB_3.out]
  cases b3 with
  | false =>
    go_wp2_with fail
    go_ret
    exact ⟨by simp, F1.out⟩
  | true =>
  go_wp2_with fail
  refine (prf_any 6 (by omega) M E m.filter [.int .i64 m.filter.kind, vk, .string (sb m.filter.type), .string (sb m.filter.value), .string (sb m.filter.first), va, .string (sb m.filter.last)] w1 (H.out.no F1.out)).mono ?_
  rintro e w2 ⟨rfl, f2⟩
  rw [HB_4.out]
  have HF2 := hid (F1.out.trans' f2)
  clear f2
  go_wp2_with fail
  go_ret
  exact ⟨by cases b4 <;> rfl, HF2.out⟩
theorem pmod_any (E : Nat → Prop) (x : Mo) (cs : List Value) (w : World) (h : MoC E w x cs) : Calls Try.prog 36 #[.agg cs.toArray] w fun e w' => e = .returned (.bool (!inI x.doing 0 2)) ∧ Fr No w w' := by
  obtain ⟨v, rfl, -, -, -⟩ := h
  obtain ⟨b, hb⟩ : ∃ b, inI x.doing 0 2 = b := ⟨_, rfl⟩
  rw [hb]
  have HB := hid hb
  clear hb
  go_enter Try.func36, Try.ntmps36
  go_wp2_with (first
    | ((with_reducible refine K.atO (.box 56 _) ?_); refine wpL_box rfl _ _ rfl _ rfl [.int .i64 x.doing, .string (sb x.attr.type), v] rfl ?_; intro w1 HB1 F1 HS1; have c0 : w1.cell? ⟨w.heap.size, 0, none⟩ = some (.int .i64 x.doing) := HB1.out.cell 0)
    | fail)
  refine (pfrom_any x.doing 0 2 w1).mono ?_
  rintro e w2 ⟨rfl, rfl⟩
  rw [HB.out]
  go_wp2_with fail
  go_ret
  exact ⟨by cases b <;> rfl, F1.out⟩
end Go.Proofs.Ythjmkfpdbbfcpaa.ME

namespace Go.Proofs.Ythjmkfpdbbfcpaa.ME
set_option maxRecDepth 100000
open Go.RowKit K Go.Proofs.Ythjmkfpdbbfcpaa.BE Go.Proofs.Ythjmkfpdbbfcpaa.FR

/-- A message has been read. -/
def ReadOp (bm : Nat) (m : Msg) (w : World) (e : Ending) (w' : World) : Prop := e = .returned (.tuple #[]) ∧ ∃ vk va vw vl vm, Blk w' bm 29 (mcs m vk va vw vl vm) ∧ MsgC 6 (Since w.heap.size) w' m vk va vw vl vm ∧ Fr (fun k => k = bm) w w'
theorem nd_two {M : Nat} {S S' : Nat → Prop} {w : World} {n : Nd} {cs : List Value} (h : NdAt M S w n cs) (hs : ∀ k, k < w.heap.size → S k → S' k) : NdAt M S' w n cs := NdAt.mono hs h
theorem ok_of_mem {d : Nat} {n : Nd} (h : okF (d + 1) n) {x : Nd} (hx : x ∈ n.kids) : okF d x := h.2.2.2 x hx
theorem kid_szK {M : Nat} {S : Nat → Prop} {w : World} {n : Nd} {cs : List Value} (h : NdAt M S w n cs) (i j : Nat) : Sz (kidN (kidN n i) j).body := by
  by_cases hi : i < n.kids.length
  · obtain ⟨M, rfl⟩ := h.succ
    obtain ⟨_, _, _, _, _, _, _, hxa⟩ := h.kid (List.getElem?_eq_getElem hi)
    have e : kidN n i = n.kids[i] := by unfold kidN; rw [List.getD_eq_getElem?_getD, List.getElem?_eq_getElem hi]; rfl
    rw [e]; exact kid_szN hxa j
  · have e : kidN n i = nd0 := by unfold kidN; rw [List.getD_eq_getElem?_getD, List.getElem?_eq_none (by omega)]; rfl
    rw [e]; show (0 : Nat) ≤ _; omega
end Go.Proofs.Ythjmkfpdbbfcpaa.ME

namespace Go.Proofs.Ythjmkfpdbbfcpaa.ME
set_option maxRecDepth 100000
open Go.RowKit K Go.Proofs.Ythjmkfpdbbfcpaa.BE Go.Proofs.Ythjmkfpdbbfcpaa.FR

set_option maxHeartbeats 16000000 in
theorem pro_96 (S : Nat → Prop) (bm : Nat) (mi : Int) (n : Nd) (cs : List Value) (w : World) (hn : NdAt 7 S w n cs) (hS : ¬ S bm) (hmi : I64 mi) (ho : okF 7 n) (hot : I64 (96)) (hB : Blk w bm 29 [.int .i64 mi, .int .i64 96, .int .i64 0, .string ⟨#[]⟩, .string ⟨#[]⟩, .int .i64 0, .int .i64 0, .int .i64 0, .int .i64 0, .bool false, .int .i64 0, .slice none 0 0, .string ⟨#[]⟩, .string ⟨#[]⟩, .string ⟨#[]⟩, .slice none 0 0, .string ⟨#[]⟩, .slice none 0 0, .slice none 0 0, .slice none 0 0, .string ⟨#[]⟩, .bool false, .bool false, .string ⟨#[]⟩, .string ⟨#[]⟩, .string ⟨#[]⟩, .int .i64 0, .int .i64 0, .string ⟨#[]⟩, .string ⟨#[]⟩])  :
    Calls Try.prog 31 #[.pointer (some ⟨bm, 0, none⟩), .agg cs.toArray] w (ReadOp bm ({ msg0 mi 96 with ver := valN (kidN n 0), name := (kidN n 1).body, pw := (kidN n 2).body }) w) := by
  obtain ⟨S2, hS2⟩ : ∃ S2 : Nat → Prop, S2 = fun k => S k ∧ k < w.heap.size := ⟨_, rfl⟩
  have HS2 : Hid (∀ k, S2 k → k < w.heap.size ∧ k ≠ bm) := hid (fun k hk => by rw [hS2] at hk; exact ⟨hk.2, fun e => hS (e ▸ hk.1)⟩)
  have HD : Hid (NdAt 7 S2 w n cs) := hid (nd_two hn (fun k hk h => by rw [hS2]; exact ⟨h, hk⟩))
  have HID := hid hmi; have HOK := hid ho; have HOT := hid hot; have HB0 := hid hB; have HLM := hid hB.lt
  have k1 : w.cell? ⟨bm, 1, none⟩ = some (.int .i64 96) := hB.cell 1
  obtain ⟨a, sc, hcs, -, -, -⟩ := hn.head
  clear hn hS hmi ho hot hB hS2
  subst hcs
  obtain ⟨bs, hbs⟩ : ∃ b, sb n.body = b := ⟨_, rfl⟩
  obtain ⟨tg, htg⟩ : ∃ t, n.tag = t := ⟨_, rfl⟩
  obtain ⟨kl, hkl⟩ : ∃ k, n.kids.length = k := ⟨_, rfl⟩
  rw [hbs, htg, hkl] at HD ⊢
  have HBS := hid hbs; have HKL := hid hkl
  clear hbs htg hkl
  go_enter Try.func31, Try.ntmps31
  go_wp2_with (first
    | ((with_reducible refine K.atO (.box 44 _) ?_); refine wpL_box rfl _ _ rfl _ rfl [.int .i64 tg, .string bs, .slice a kl sc] rfl ?_; intro w1 HB1 F1 HS1)
    | ((with_reducible refine K.atO (.load 44 _) ?_); refine wpL_load rfl _ _ rfl w.heap.size 0 rfl [.int .i64 tg, .string bs, .slice a kl sc] _ (HB1.out.range 0 _ rfl) rfl rfl infoN ?_)
    | fail)
  refine (pchildren_any 6 S2 n [.int .i64 tg, .string bs, .slice a kl sc] w1 (HD.out.no F1.out)).mono ?_
  rintro e w3 ⟨bn, rfl, hbn, hr, f3⟩
  have HBN : Hid (w.heap.size ≤ bn) := hid (Nat.le_trans F1.out.size hbn)
  have HNX : Hid (w.heap.size < bn) := hid (by have := HS1.out; omega)
  have HR0 := hid hr.start; have HF3 : Hid (Fr (fun k => k = bm) w w3) := hid ((F1.out.trans' f3).mono fun _ e => e.elim)
  have HBm := hid ((HB0.out.fr F1.out (fun e => e)).fr f3 (fun e => e)); have HBx := hid (HB1.out.fr f3 (fun e => e))
  have kop : w3.cell? ⟨bm, 1, none⟩ = some (.int .i64 96) := HBm.out.cell 1
  clear hbn hr f3 HB1 F1 HS1 HB0 k1
  go_wp2_with fail
  clear kop
  refine (pkidn_any 5 S2 bn n 0 w3 HR0.out (fun h => by have := HS2.out _ h; have := HBN.out; omega)).mono ?_
  rintro e y1 ⟨k1, rfl, hk1, hr1, f1⟩
  have HK1 := hid hk1; have HR1 := hid hr1; have HF1 := hid (HF3.out.trans f1 fun k e => .inr (by have e : k = bn := e; have := HBN.out; omega)); have HB1 := hid (HBm.out.fr f1 (fun e => by have e : bm = bn := e; have := HBN.out; have := HLM.out; omega))
  have HX1 := hid (HBx.out.fr f1 (fun e => by have e : w.heap.size = bn := e; have := HNX.out; omega))
  clear hk1 hr1 f1
  go_wp2_with fail
  refine (pnumberOf_any _ _ _ _ y1 HK1.out).mono ?_
  rintro e y2 ⟨rfl, f2⟩
  have HR2 := hid (HR1.out.no f2); have HF2 := hid (HF1.out.trans f2 fun _ e => e.elim); have HB2 := hid (HB1.out.fr f2 id)
  have HX2 := hid (HX1.out.fr f2 id)
  clear f2
  obtain ⟨N3, hN3⟩ : ∃ x, valN (kidN n 0) = x := ⟨_, rfl⟩
  rw [hN3]
  have HN3 := hid hN3
  clear hN3
  go_wp2_with fail
  refine (pkidn_any 5 S2 bn n 1 y2 HR2.out (fun h => by have := HS2.out _ h; have := HBN.out; omega)).mono ?_
  rintro e y4 ⟨k4, rfl, hk4, hr4, f4⟩
  have HK4 := hid hk4; have HR4 := hid hr4; have HF4 := hid (HF2.out.trans f4 fun k e => .inr (by have e : k = bn := e; have := HBN.out; omega)); have HB4 := hid (HB2.out.fr f4 (fun e => by have e : bm = bn := e; have := HBN.out; have := HLM.out; omega))
  have HX4 := hid (HX2.out.fr f4 (fun e => by have e : w.heap.size = bn := e; have := HNX.out; omega))
  clear hk4 hr4 f4
  go_wp2_with fail
  refine (ptextOf_any _ _ _ _ y4 HK4.out).mono ?_
  rintro e y5 ⟨rfl, f5⟩
  have HR5 := hid (HR4.out.no f5); have HF5 := hid (HF4.out.trans f5 fun _ e => e.elim); have HB5 := hid (HB4.out.fr f5 id)
  have HX5 := hid (HX4.out.fr f5 id)
  clear f5
  obtain ⟨T6, hT6⟩ : ∃ x, sb (kidN n 1).body = x := ⟨_, rfl⟩
  rw [hT6]
  have HT6 := hid hT6
  clear hT6
  go_wp2_with fail
  refine (pkidn_any 5 S2 bn n 2 y5 HR5.out (fun h => by have := HS2.out _ h; have := HBN.out; omega)).mono ?_
  rintro e y7 ⟨k7, rfl, hk7, hr7, f7⟩
  have HK7 := hid hk7; have HR7 := hid hr7; have HF7 := hid (HF5.out.trans f7 fun k e => .inr (by have e : k = bn := e; have := HBN.out; omega)); have HB7 := hid (HB5.out.fr f7 (fun e => by have e : bm = bn := e; have := HBN.out; have := HLM.out; omega))
  have HX7 := hid (HX5.out.fr f7 (fun e => by have e : w.heap.size = bn := e; have := HNX.out; omega))
  clear hk7 hr7 f7
  go_wp2_with fail
  refine (ptextOf_any _ _ _ _ y7 HK7.out).mono ?_
  rintro e y8 ⟨rfl, f8⟩
  have HR8 := hid (HR7.out.no f8); have HF8 := hid (HF7.out.trans f8 fun _ e => e.elim); have HB8 := hid (HB7.out.fr f8 id)
  have HX8 := hid (HX7.out.fr f8 id)
  clear f8
  obtain ⟨T9, hT9⟩ : ∃ x, sb (kidN n 2).body = x := ⟨_, rfl⟩
  rw [hT9]
  have HT9 := hid hT9
  clear hT9
  go_wp2_with (first
    | ((with_reducible refine K.atO (.store 3 _ _) ?_); (fail_if_success (have := HU0)); refine wpL_setV rfl _ _ _ rfl bm 2 (.int .i64 N3) rfl rfl rfl rfl _ _ HB8.out (by simp) infoI0 ?_; intro s_0 HY0 FU0 HW0; have HU0 := HY0)
    | ((with_reducible refine K.atO (.store 9 _ _) ?_); (fail_if_success (have := HU1)); (have := HU0); refine wpL_setV rfl _ _ _ rfl bm 3 (.string T6) rfl rfl rfl rfl _ _ HU0.out (by simp) infoS ?_; intro s_1 HY1 FU1 HW1; have HU1 := HY1)
    | ((with_reducible refine K.atO (.store 9 _ _) ?_); (fail_if_success (have := HU2)); (have := HU1); refine wpL_setV rfl _ _ _ rfl bm 4 (.string T9) rfl rfl rfl rfl _ _ HU1.out (by simp) infoS ?_; intro s_2 HY2 FU2 HW2; have HU2 := HY2; refine Hid.out ?_)
    | fail)
  have hs10 : Fr (fun k => k = bm) y8 s_2 := ((FU0.out.trans' FU1.out).trans' FU2.out)
  have HF10 := hid (HF8.out.trans' hs10); have HB10 := HU2
  have HR10 := hid (HR8.out.fr hs10 (fun i hi _ e => by have := HS2.out _ hi; have e : i = bm := e; omega) (fun e => by have e : bn = bm := e; have := HBN.out; have := HLM.out; omega))
  have HX10 := hid (HX8.out.fr hs10 (fun e => by have e : w.heap.size = bm := e; have := HLM.out; omega))
  clear hs10 HY0 FU0 HW0 HY1 FU1 HW1 HY2 FU2 HW2
  refine hid ?_
  go_wp2_with fail
  go_end0
  refine ⟨rfl, .slice none 0 0, .slice none 0 0, .slice none 0 0, .slice none 0 0, .slice none 0 0, ?_, ⟨⟨HID.out, ⟨by have := HOT.out; show (-9223372036854775808 : Int) ≤ 96; omega, by have := HOT.out; show (96 : Int) ≤ _; omega⟩, val_i64 _, i64z, i64z, i64z, i64z, i64z, i64z⟩, ⟨kid_szN HD.out 1, kid_szN HD.out 2, (Nat.zero_le _), (Nat.zero_le _), (Nat.zero_le _), (Nat.zero_le _), (Nat.zero_le _), (Nat.zero_le _)⟩, ⟨_, _, rfl, i64z, (Nat.zero_le _), (Nat.zero_le _), (Nat.zero_le _), (Nat.zero_le _), tx_none _ _, ⟨none, 0, rfl, Nat.le_refl _, by show (0 : Nat) ≤ _; omega, .inl rfl⟩⟩, tx_none _ _, ⟨none, 0, rfl, Nat.le_refl _, by show (0 : Nat) ≤ _; omega, .inl rfl⟩, ⟨none, 0, rfl, Nat.le_refl _, by show (0 : Nat) ≤ _; omega, .inl rfl⟩⟩, HF10.out⟩
  have h := HB10.out
  rw [← HN3.out, ← HT6.out, ← HT9.out] at h
  exact h
set_option maxHeartbeats 16000000 in
theorem pro_99 (S : Nat → Prop) (bm : Nat) (mi : Int) (n : Nd) (cs : List Value) (w : World) (hn : NdAt 7 S w n cs) (hS : ¬ S bm) (hmi : I64 mi) (ho : okF 7 n) (hot : I64 (99)) (hB : Blk w bm 29 [.int .i64 mi, .int .i64 99, .int .i64 0, .string ⟨#[]⟩, .string ⟨#[]⟩, .int .i64 0, .int .i64 0, .int .i64 0, .int .i64 0, .bool false, .int .i64 0, .slice none 0 0, .string ⟨#[]⟩, .string ⟨#[]⟩, .string ⟨#[]⟩, .slice none 0 0, .string ⟨#[]⟩, .slice none 0 0, .slice none 0 0, .slice none 0 0, .string ⟨#[]⟩, .bool false, .bool false, .string ⟨#[]⟩, .string ⟨#[]⟩, .string ⟨#[]⟩, .int .i64 0, .int .i64 0, .string ⟨#[]⟩, .string ⟨#[]⟩])  :
    Calls Try.prog 31 #[.pointer (some ⟨bm, 0, none⟩), .agg cs.toArray] w (ReadOp bm ({ msg0 mi 99 with name := (kidN n 0).body, scope := valN (kidN n 1), deref := valN (kidN n 2), size := valN (kidN n 3), time := valN (kidN n 4), typesOnly := decide ((kidN n 5).body = [255]), filter := filterR 6 (kidN n 6), wants := bodiesN (kidN n 7) }) w) := by
  obtain ⟨S2, hS2⟩ : ∃ S2 : Nat → Prop, S2 = fun k => S k ∧ k < w.heap.size := ⟨_, rfl⟩
  have HS2 : Hid (∀ k, S2 k → k < w.heap.size ∧ k ≠ bm) := hid (fun k hk => by rw [hS2] at hk; exact ⟨hk.2, fun e => hS (e ▸ hk.1)⟩)
  have HD : Hid (NdAt 7 S2 w n cs) := hid (nd_two hn (fun k hk h => by rw [hS2]; exact ⟨h, hk⟩))
  have HID := hid hmi; have HOK := hid ho; have HOT := hid hot; have HB0 := hid hB; have HLM := hid hB.lt
  have k1 : w.cell? ⟨bm, 1, none⟩ = some (.int .i64 99) := hB.cell 1
  obtain ⟨a, sc, hcs, -, -, -⟩ := hn.head
  clear hn hS hmi ho hot hB hS2
  subst hcs
  obtain ⟨bs, hbs⟩ : ∃ b, sb n.body = b := ⟨_, rfl⟩
  obtain ⟨tg, htg⟩ : ∃ t, n.tag = t := ⟨_, rfl⟩
  obtain ⟨kl, hkl⟩ : ∃ k, n.kids.length = k := ⟨_, rfl⟩
  rw [hbs, htg, hkl] at HD ⊢
  have HBS := hid hbs; have HKL := hid hkl
  clear hbs htg hkl
  go_enter Try.func31, Try.ntmps31
  go_wp2_with (first
    | ((with_reducible refine K.atO (.box 44 _) ?_); refine wpL_box rfl _ _ rfl _ rfl [.int .i64 tg, .string bs, .slice a kl sc] rfl ?_; intro w1 HB1 F1 HS1)
    | ((with_reducible refine K.atO (.load 44 _) ?_); refine wpL_load rfl _ _ rfl w.heap.size 0 rfl [.int .i64 tg, .string bs, .slice a kl sc] _ (HB1.out.range 0 _ rfl) rfl rfl infoN ?_)
    | fail)
  refine (pchildren_any 6 S2 n [.int .i64 tg, .string bs, .slice a kl sc] w1 (HD.out.no F1.out)).mono ?_
  rintro e w3 ⟨bn, rfl, hbn, hr, f3⟩
  have HBN : Hid (w.heap.size ≤ bn) := hid (Nat.le_trans F1.out.size hbn)
  have HNX : Hid (w.heap.size < bn) := hid (by have := HS1.out; omega)
  have HR0 := hid hr.start; have HF3 : Hid (Fr (fun k => k = bm) w w3) := hid ((F1.out.trans' f3).mono fun _ e => e.elim)
  have HBm := hid ((HB0.out.fr F1.out (fun e => e)).fr f3 (fun e => e)); have HBx := hid (HB1.out.fr f3 (fun e => e))
  have kop : w3.cell? ⟨bm, 1, none⟩ = some (.int .i64 99) := HBm.out.cell 1
  clear hbn hr f3 HB1 F1 HS1 HB0 k1
  go_wp2_with fail
  clear kop
  refine (pkidn_any 5 S2 bn n 0 w3 HR0.out (fun h => by have := HS2.out _ h; have := HBN.out; omega)).mono ?_
  rintro e y1 ⟨k1, rfl, hk1, hr1, f1⟩
  have HK1 := hid hk1; have HR1 := hid hr1; have HF1 := hid (HF3.out.trans f1 fun k e => .inr (by have e : k = bn := e; have := HBN.out; omega)); have HB1 := hid (HBm.out.fr f1 (fun e => by have e : bm = bn := e; have := HBN.out; have := HLM.out; omega))
  have HX1 := hid (HBx.out.fr f1 (fun e => by have e : w.heap.size = bn := e; have := HNX.out; omega))
  clear hk1 hr1 f1
  go_wp2_with fail
  refine (ptextOf_any _ _ _ _ y1 HK1.out).mono ?_
  rintro e y2 ⟨rfl, f2⟩
  have HR2 := hid (HR1.out.no f2); have HF2 := hid (HF1.out.trans f2 fun _ e => e.elim); have HB2 := hid (HB1.out.fr f2 id)
  have HX2 := hid (HX1.out.fr f2 id)
  clear f2
  obtain ⟨T3, hT3⟩ : ∃ x, sb (kidN n 0).body = x := ⟨_, rfl⟩
  rw [hT3]
  have HT3 := hid hT3
  clear hT3
  go_wp2_with fail
  refine (pkidn_any 5 S2 bn n 1 y2 HR2.out (fun h => by have := HS2.out _ h; have := HBN.out; omega)).mono ?_
  rintro e y4 ⟨k4, rfl, hk4, hr4, f4⟩
  have HK4 := hid hk4; have HR4 := hid hr4; have HF4 := hid (HF2.out.trans f4 fun k e => .inr (by have e : k = bn := e; have := HBN.out; omega)); have HB4 := hid (HB2.out.fr f4 (fun e => by have e : bm = bn := e; have := HBN.out; have := HLM.out; omega))
  have HX4 := hid (HX2.out.fr f4 (fun e => by have e : w.heap.size = bn := e; have := HNX.out; omega))
  clear hk4 hr4 f4
  go_wp2_with fail
  refine (pnumberOf_any _ _ _ _ y4 HK4.out).mono ?_
  rintro e y5 ⟨rfl, f5⟩
  have HR5 := hid (HR4.out.no f5); have HF5 := hid (HF4.out.trans f5 fun _ e => e.elim); have HB5 := hid (HB4.out.fr f5 id)
  have HX5 := hid (HX4.out.fr f5 id)
  clear f5
  obtain ⟨N6, hN6⟩ : ∃ x, valN (kidN n 1) = x := ⟨_, rfl⟩
  rw [hN6]
  have HN6 := hid hN6
  clear hN6
  go_wp2_with fail
  refine (pkidn_any 5 S2 bn n 2 y5 HR5.out (fun h => by have := HS2.out _ h; have := HBN.out; omega)).mono ?_
  rintro e y7 ⟨k7, rfl, hk7, hr7, f7⟩
  have HK7 := hid hk7; have HR7 := hid hr7; have HF7 := hid (HF5.out.trans f7 fun k e => .inr (by have e : k = bn := e; have := HBN.out; omega)); have HB7 := hid (HB5.out.fr f7 (fun e => by have e : bm = bn := e; have := HBN.out; have := HLM.out; omega))
  have HX7 := hid (HX5.out.fr f7 (fun e => by have e : w.heap.size = bn := e; have := HNX.out; omega))
  clear hk7 hr7 f7
  go_wp2_with fail
  refine (pnumberOf_any _ _ _ _ y7 HK7.out).mono ?_
  rintro e y8 ⟨rfl, f8⟩
  have HR8 := hid (HR7.out.no f8); have HF8 := hid (HF7.out.trans f8 fun _ e => e.elim); have HB8 := hid (HB7.out.fr f8 id)
  have HX8 := hid (HX7.out.fr f8 id)
  clear f8
  obtain ⟨N9, hN9⟩ : ∃ x, valN (kidN n 2) = x := ⟨_, rfl⟩
  rw [hN9]
  have HN9 := hid hN9
  clear hN9
  go_wp2_with (first
    | ((with_reducible refine K.atO (.store 9 _ _) ?_); (fail_if_success (have := HU0)); refine wpL_setV rfl _ _ _ rfl bm 3 (.string T3) rfl rfl rfl rfl _ _ HB8.out (by simp) infoS ?_; intro s_0 HY0 FU0 HW0; have HU0 := HY0)
    | ((with_reducible refine K.atO (.store 3 _ _) ?_); (fail_if_success (have := HU1)); (have := HU0); refine wpL_setV rfl _ _ _ rfl bm 5 (.int .i64 N6) rfl rfl rfl rfl _ _ HU0.out (by simp) infoI0 ?_; intro s_1 HY1 FU1 HW1; have HU1 := HY1)
    | ((with_reducible refine K.atO (.store 3 _ _) ?_); (fail_if_success (have := HU2)); (have := HU1); refine wpL_setV rfl _ _ _ rfl bm 6 (.int .i64 N9) rfl rfl rfl rfl _ _ HU1.out (by simp) infoI0 ?_; intro s_2 HY2 FU2 HW2; have HU2 := HY2; refine Hid.out ?_)
    | fail)
  have hs10 : Fr (fun k => k = bm) y8 s_2 := ((FU0.out.trans' FU1.out).trans' FU2.out)
  have HF10 := hid (HF8.out.trans' hs10); have HB10 := HU2
  have HR10 := hid (HR8.out.fr hs10 (fun i hi _ e => by have := HS2.out _ hi; have e : i = bm := e; omega) (fun e => by have e : bn = bm := e; have := HBN.out; have := HLM.out; omega))
  have HX10 := hid (HX8.out.fr hs10 (fun e => by have e : w.heap.size = bm := e; have := HLM.out; omega))
  clear hs10 HY0 FU0 HW0 HY1 FU1 HW1 HY2 FU2 HW2
  refine hid ?_
  go_wp2_with fail
  refine (pkidn_any 5 S2 bn n 3 s_2 HR10.out (fun h => by have := HS2.out _ h; have := HBN.out; omega)).mono ?_
  rintro e y11 ⟨k11, rfl, hk11, hr11, f11⟩
  have HK11 := hid hk11; have HR11 := hid hr11; have HF11 := hid (HF10.out.trans f11 fun k e => .inr (by have e : k = bn := e; have := HBN.out; omega)); have HB11 := hid (HB10.out.fr f11 (fun e => by have e : bm = bn := e; have := HBN.out; have := HLM.out; omega))
  have HX11 := hid (HX10.out.fr f11 (fun e => by have e : w.heap.size = bn := e; have := HNX.out; omega))
  clear hk11 hr11 f11
  go_wp2_with fail
  refine (pnumberOf_any _ _ _ _ y11 HK11.out).mono ?_
  rintro e y12 ⟨rfl, f12⟩
  have HR12 := hid (HR11.out.no f12); have HF12 := hid (HF11.out.trans f12 fun _ e => e.elim); have HB12 := hid (HB11.out.fr f12 id)
  have HX12 := hid (HX11.out.fr f12 id)
  clear f12
  obtain ⟨N13, hN13⟩ : ∃ x, valN (kidN n 3) = x := ⟨_, rfl⟩
  rw [hN13]
  have HN13 := hid hN13
  clear hN13
  go_wp2_with fail
  refine (pkidn_any 5 S2 bn n 4 y12 HR12.out (fun h => by have := HS2.out _ h; have := HBN.out; omega)).mono ?_
  rintro e y14 ⟨k14, rfl, hk14, hr14, f14⟩
  have HK14 := hid hk14; have HR14 := hid hr14; have HF14 := hid (HF12.out.trans f14 fun k e => .inr (by have e : k = bn := e; have := HBN.out; omega)); have HB14 := hid (HB12.out.fr f14 (fun e => by have e : bm = bn := e; have := HBN.out; have := HLM.out; omega))
  have HX14 := hid (HX12.out.fr f14 (fun e => by have e : w.heap.size = bn := e; have := HNX.out; omega))
  clear hk14 hr14 f14
  go_wp2_with fail
  refine (pnumberOf_any _ _ _ _ y14 HK14.out).mono ?_
  rintro e y15 ⟨rfl, f15⟩
  have HR15 := hid (HR14.out.no f15); have HF15 := hid (HF14.out.trans f15 fun _ e => e.elim); have HB15 := hid (HB14.out.fr f15 id)
  have HX15 := hid (HX14.out.fr f15 id)
  clear f15
  obtain ⟨N16, hN16⟩ : ∃ x, valN (kidN n 4) = x := ⟨_, rfl⟩
  rw [hN16]
  have HN16 := hid hN16
  clear hN16
  go_wp2_with fail
  refine (pkidn_any 5 S2 bn n 5 y15 HR15.out (fun h => by have := HS2.out _ h; have := HBN.out; omega)).mono ?_
  rintro e y17 ⟨k17, rfl, hk17, hr17, f17⟩
  have HK17 := hid hk17; have HR17 := hid hr17; have HF17 := hid (HF15.out.trans f17 fun k e => .inr (by have e : k = bn := e; have := HBN.out; omega)); have HB17 := hid (HB15.out.fr f17 (fun e => by have e : bm = bn := e; have := HBN.out; have := HLM.out; omega))
  have HX17 := hid (HX15.out.fr f17 (fun e => by have e : w.heap.size = bn := e; have := HNX.out; omega))
  clear hk17 hr17 f17
  go_wp2_with fail
  refine (ptruthOf_any _ _ _ _ y17 HK17.out).mono ?_
  rintro e y18 ⟨rfl, f18⟩
  have HR18 := hid (HR17.out.no f18); have HF18 := hid (HF17.out.trans f18 fun _ e => e.elim); have HB18 := hid (HB17.out.fr f18 id)
  have HX18 := hid (HX17.out.fr f18 id)
  clear f18
  obtain ⟨Q19, hQ19⟩ : ∃ x, decide ((kidN n 5).body = [255]) = x := ⟨_, rfl⟩
  rw [hQ19]
  have HQ19 := hid hQ19
  clear hQ19
  go_wp2_with (first
    | ((with_reducible refine K.atO (.store 3 _ _) ?_); (fail_if_success (have := HU3)); refine wpL_setV rfl _ _ _ rfl bm 7 (.int .i64 N13) rfl rfl rfl rfl _ _ HB18.out (by simp) infoI0 ?_; intro s_3 HY3 FU3 HW3; have HU3 := HY3)
    | ((with_reducible refine K.atO (.store 3 _ _) ?_); (fail_if_success (have := HU4)); (have := HU3); refine wpL_setV rfl _ _ _ rfl bm 8 (.int .i64 N16) rfl rfl rfl rfl _ _ HU3.out (by simp) infoI0 ?_; intro s_4 HY4 FU4 HW4; have HU4 := HY4)
    | ((with_reducible refine K.atO (.store 4 _ _) ?_); (fail_if_success (have := HU5)); (have := HU4); refine wpL_setV rfl _ _ _ rfl bm 9 (.bool Q19) rfl rfl rfl rfl _ _ HU4.out (by simp) infoI1 ?_; intro s_5 HY5 FU5 HW5; have HU5 := HY5; refine Hid.out ?_)
    | fail)
  have hs20 : Fr (fun k => k = bm) y18 s_5 := ((FU3.out.trans' FU4.out).trans' FU5.out)
  have HF20 := hid (HF18.out.trans' hs20); have HB20 := HU5
  have HR20 := hid (HR18.out.fr hs20 (fun i hi _ e => by have := HS2.out _ hi; have e : i = bm := e; omega) (fun e => by have e : bn = bm := e; have := HBN.out; have := HLM.out; omega))
  have HX20 := hid (HX18.out.fr hs20 (fun e => by have e : w.heap.size = bm := e; have := HLM.out; omega))
  clear hs20 HY3 FU3 HW3 HY4 FU4 HW4 HY5 FU5 HW5
  refine hid ?_
  go_wp2_with fail
  refine (pkidn_any 5 S2 bn n 6 s_5 HR20.out (fun h => by have := HS2.out _ h; have := HBN.out; omega)).mono ?_
  rintro e y21 ⟨k21, rfl, hk21, hr21, f21⟩
  have HK21 := hid hk21; have HR21 := hid hr21; have HF21 := hid (HF20.out.trans f21 fun k e => .inr (by have e : k = bn := e; have := HBN.out; omega)); have HB21 := hid (HB20.out.fr f21 (fun e => by have e : bm = bn := e; have := HBN.out; have := HLM.out; omega))
  have HX21 := hid (HX20.out.fr f21 (fun e => by have e : w.heap.size = bn := e; have := HNX.out; omega))
  clear hk21 hr21 f21
  go_wp2_with fail
  refine (pfilterOf_any 6 S2 (kidN n 6) _ y21 HK21.out (HOK.out.kidK 6)).mono ?_
  rintro e y22 ⟨fds, rfl, hv, f22⟩
  have HR22 := hid (HR21.out.no f22); have HF22 := hid (HF21.out.trans f22 fun _ e => e.elim); have HB22 := hid (HB21.out.fr f22 id)
  have HX22 := hid (HX21.out.fr f22 id)
  have HV22 := hid hv
  obtain ⟨fk22, fa22, rfl, -, -, -, -, -, hft, hfs⟩ := hv
  obtain ⟨ka22, kc22, rfl, -, -⟩ := hfs.form
  obtain ⟨aa22, ac22, rfl, -, -⟩ := hft.form
  obtain ⟨FF, hFF⟩ : ∃ x, filterR 6 (kidN n 6) = x := ⟨_, rfl⟩
  rw [hFF] at HV22 ⊢
  have HFF := hid hFF
  clear hft hfs hFF
  have HLB22 : Hid (bm < y21.heap.size ∧ bn < y21.heap.size) := hid (by have := HR21.out.lt; have := HB21.out.lt; omega)
  clear f22
  go_wp2_with fail
  refine (pkidn_any 5 S2 bn n 7 y22 HR22.out (fun h => by have := HS2.out _ h; have := HBN.out; omega)).mono ?_
  rintro e y23 ⟨k23, rfl, hk23, hr23, f23⟩
  have HK23 := hid hk23; have HR23 := hid hr23; have HF23 := hid (HF22.out.trans f23 fun k e => .inr (by have e : k = bn := e; have := HBN.out; omega)); have HB23 := hid (HB22.out.fr f23 (fun e => by have e : bm = bn := e; have := HBN.out; have := HLM.out; omega))
  have HX23 := hid (HX22.out.fr f23 (fun e => by have e : w.heap.size = bn := e; have := HNX.out; omega))
  have HKP24 := hid (HV22.out.fr f23 (fun k hk _ e => by have h : y21.heap.size ≤ k := hk; have e : k = bn := e; have := HLB22.out; omega))
  clear hk23 hr23 f23
  go_wp2_with fail
  refine (plistTx gpTx Nd.body 56 5 S2 (kidN n 7) _ y23 HK23.out (by have := HOK.out.kid 7; omega) (fun vs w => by kernel_rfl) (fun x hx c wv hx2 _ => (ptextOf_any _ _ x c wv hx2).mono fun _ _ h => ⟨[.string (sb x.body)], h.1, ⟨rfl, kid_sz hx2⟩, h.2⟩) (fun _ _ _ _ h => ⟨_, h.1⟩)).mono ?_
  rintro e y25 ⟨v, rfl, hv, f25⟩
  have HR25 := hid (HR23.out.no f25); have HF25 := hid (HF23.out.trans f25 fun _ e => e.elim); have HB25 := hid (HB23.out.fr f25 id)
  have HX25 := hid (HX23.out.fr f25 id)
  have HKP26 := hid (HKP24.out.fr f25 (fun k hk _ e => by have h : y21.heap.size ≤ k := hk; exact e.elim))
  have HV25 := hid (sl_tx hv)
  obtain ⟨va25, vc25, rfl, -, -⟩ := hv.form
  obtain ⟨vl25, hvl⟩ : ∃ k, ((kidN n 7).kids.map Nd.body).length = k := ⟨_, rfl⟩
  rw [hvl] at HV25 ⊢
  clear hv hvl
  have HLB25 : Hid (bm < y23.heap.size ∧ bn < y23.heap.size) := hid (by have := HR23.out.lt; have := HB23.out.lt; omega)
  clear f25
  go_wp2_with (first
    | ((with_reducible refine K.atO (.store 25 _ _) ?_); (fail_if_success (have := HU6)); refine wpL_storeV rfl _ _ _ rfl bm 10 (.agg #[.int .i64 FF.kind, .slice ka22 FF.kids.length kc22, .string (sb FF.type), .string (sb FF.value), .string (sb FF.first), .slice aa22 FF.any.length ac22, .string (sb FF.last)]) [.int .i64 FF.kind, .slice ka22 FF.kids.length kc22, .string (sb FF.type), .string (sb FF.value), .string (sb FF.first), .slice aa22 FF.any.length ac22, .string (sb FF.last)] rfl rfl rfl _ _ HB25.out (by simp) infoFl (by intro u hu; simp at hu; rcases hu with rfl | rfl | rfl | rfl | rfl | rfl | rfl <;> rfl) ?_; intro s_6 HY6 FU6 HW6; have HU6 : Hid (Blk s_6 bm 29 [.int .i64 mi, .int .i64 99, .int .i64 0, .string T3, .string ⟨#[]⟩, .int .i64 N6, .int .i64 N9, .int .i64 N13, .int .i64 N16, .bool Q19, .int .i64 FF.kind, .slice ka22 FF.kids.length kc22, .string (sb FF.type), .string (sb FF.value), .string (sb FF.first), .slice aa22 FF.any.length ac22, .string (sb FF.last), .slice none 0 0, .slice none 0 0, .slice none 0 0, .string ⟨#[]⟩, .bool false, .bool false, .string ⟨#[]⟩, .string ⟨#[]⟩, .string ⟨#[]⟩, .int .i64 0, .int .i64 0, .string ⟨#[]⟩, .string ⟨#[]⟩]) := hid HY6.out)
    | ((with_reducible refine K.atO (.store 23 _ _) ?_); (fail_if_success (have := HU7)); (have := HU6); refine wpL_setV rfl _ _ _ rfl bm 17 (.slice va25 vl25 vc25) rfl rfl rfl rfl _ _ HU6.out (by simp) infoSs ?_; intro s_7 HY7 FU7 HW7; have HU7 := HY7; refine Hid.out ?_)
    | fail)
  have hs27 : Fr (fun k => k = bm) y25 s_7 := (FU6.out.trans' FU7.out)
  have HF27 := hid (HF25.out.trans' hs27); have HB27 := HU7
  have HR27 := hid (HR25.out.fr hs27 (fun i hi _ e => by have := HS2.out _ hi; have e : i = bm := e; omega) (fun e => by have e : bn = bm := e; have := HBN.out; have := HLM.out; omega))
  have HX27 := hid (HX25.out.fr hs27 (fun e => by have e : w.heap.size = bm := e; have := HLM.out; omega))
  have HKP28 := hid (HKP26.out.fr hs27 (fun k hk _ e => by have h : y21.heap.size ≤ k := hk; have e : k = bm := e; have := HLB22.out; omega))
  have HKP29 := hid (HV25.out.fr hs27 (fun k hk _ e => by have h : y23.heap.size ≤ k := hk; have e : k = bm := e; have := HLB25.out; omega))
  clear hs27 HY6 FU6 HW6 HY7 FU7 HW7
  refine hid ?_
  go_wp2_with fail
  go_end0
  refine ⟨rfl, .slice ka22 FF.kids.length kc22, .slice aa22 FF.any.length ac22, .slice va25 vl25 vc25, .slice none 0 0, .slice none 0 0, ?_, ⟨⟨HID.out, ⟨by have := HOT.out; show (-9223372036854775808 : Int) ≤ 99; omega, by have := HOT.out; show (99 : Int) ≤ _; omega⟩, i64z, val_i64 _, val_i64 _, val_i64 _, val_i64 _, i64z, i64z⟩, ⟨kid_szN HD.out 0, (Nat.zero_le _), (Nat.zero_le _), (Nat.zero_le _), (Nat.zero_le _), (Nat.zero_le _), (Nat.zero_le _), (Nat.zero_le _)⟩, by have h := HKP28.out; rw [← HFF.out] at h ⊢; exact h.monoS (fun k _ hk => Nat.le_trans HF21.out.size hk), HKP29.out.monoS (fun k _ hk => Nat.le_trans HF23.out.size hk), ⟨none, 0, rfl, Nat.le_refl _, by show (0 : Nat) ≤ _; omega, .inl rfl⟩, ⟨none, 0, rfl, Nat.le_refl _, by show (0 : Nat) ≤ _; omega, .inl rfl⟩⟩, HF27.out⟩
  have h := HB27.out
  rw [← HT3.out, ← HN6.out, ← HN9.out, ← HN13.out, ← HN16.out, ← HQ19.out, ← HFF.out] at h
  rw [← HFF.out]
  exact h
set_option maxHeartbeats 16000000 in
theorem pro_none (S : Nat → Prop) (bm : Nat) (mi op : Int) (n : Nd) (cs : List Value) (w : World) (hn : NdAt 7 S w n cs) (hS : ¬ S bm) (hmi : I64 mi) (ho : okF 7 n) (hot : I64 (op)) (hB : Blk w bm 29 [.int .i64 mi, .int .i64 op, .int .i64 0, .string ⟨#[]⟩, .string ⟨#[]⟩, .int .i64 0, .int .i64 0, .int .i64 0, .int .i64 0, .bool false, .int .i64 0, .slice none 0 0, .string ⟨#[]⟩, .string ⟨#[]⟩, .string ⟨#[]⟩, .slice none 0 0, .string ⟨#[]⟩, .slice none 0 0, .slice none 0 0, .slice none 0 0, .string ⟨#[]⟩, .bool false, .bool false, .string ⟨#[]⟩, .string ⟨#[]⟩, .string ⟨#[]⟩, .int .i64 0, .int .i64 0, .string ⟨#[]⟩, .string ⟨#[]⟩]) (hx : ¬ op = 96 ∧ ¬ op = 99 ∧ ¬ op = 102 ∧ ¬ op = 104 ∧ ¬ op = 100 ∧ ¬ op = 74 ∧ ¬ op = 108 ∧ ¬ op = 110 ∧ ¬ op = 80 ∧ ¬ op = 97 ∧ ¬ op = 101 ∧ ¬ op = 103 ∧ ¬ op = 105 ∧ ¬ op = 107 ∧ ¬ op = 109 ∧ ¬ op = 111 ∧ ¬ op = 120) :
    Calls Try.prog 31 #[.pointer (some ⟨bm, 0, none⟩), .agg cs.toArray] w (ReadOp bm (msg0 mi op) w) := by
  obtain ⟨S2, hS2⟩ : ∃ S2 : Nat → Prop, S2 = fun k => S k ∧ k < w.heap.size := ⟨_, rfl⟩
  have HS2 : Hid (∀ k, S2 k → k < w.heap.size ∧ k ≠ bm) := hid (fun k hk => by rw [hS2] at hk; exact ⟨hk.2, fun e => hS (e ▸ hk.1)⟩)
  have HD : Hid (NdAt 7 S2 w n cs) := hid (nd_two hn (fun k hk h => by rw [hS2]; exact ⟨h, hk⟩))
  have HID := hid hmi; have HOK := hid ho; have HOT := hid hot; have HB0 := hid hB; have HLM := hid hB.lt
  have k1 : w.cell? ⟨bm, 1, none⟩ = some (.int .i64 op) := hB.cell 1
  have g96 := nbi _ _ hx.1
  have g99 := nbi _ _ hx.2.1
  have g102 := nbi _ _ hx.2.2.1
  have g104 := nbi _ _ hx.2.2.2.1
  have g100 := nbi _ _ hx.2.2.2.2.1
  have g74 := nbi _ _ hx.2.2.2.2.2.1
  have g108 := nbi _ _ hx.2.2.2.2.2.2.1
  have g110 := nbi _ _ hx.2.2.2.2.2.2.2.1
  have g80 := nbi _ _ hx.2.2.2.2.2.2.2.2.1
  have g97 := nbi _ _ hx.2.2.2.2.2.2.2.2.2.1
  have g101 := nbi _ _ hx.2.2.2.2.2.2.2.2.2.2.1
  have g103 := nbi _ _ hx.2.2.2.2.2.2.2.2.2.2.2.1
  have g105 := nbi _ _ hx.2.2.2.2.2.2.2.2.2.2.2.2.1
  have g107 := nbi _ _ hx.2.2.2.2.2.2.2.2.2.2.2.2.2.1
  have g109 := nbi _ _ hx.2.2.2.2.2.2.2.2.2.2.2.2.2.2.1
  have g111 := nbi _ _ hx.2.2.2.2.2.2.2.2.2.2.2.2.2.2.2.1
  have g120 := nbi _ _ hx.2.2.2.2.2.2.2.2.2.2.2.2.2.2.2.2
  clear hx
  obtain ⟨a, sc, hcs, -, -, -⟩ := hn.head
  clear hn hS hmi ho hot hB hS2
  subst hcs
  obtain ⟨bs, hbs⟩ : ∃ b, sb n.body = b := ⟨_, rfl⟩
  obtain ⟨tg, htg⟩ : ∃ t, n.tag = t := ⟨_, rfl⟩
  obtain ⟨kl, hkl⟩ : ∃ k, n.kids.length = k := ⟨_, rfl⟩
  rw [hbs, htg, hkl] at HD ⊢
  have HBS := hid hbs; have HKL := hid hkl
  clear hbs htg hkl
  go_enter Try.func31, Try.ntmps31
  go_wp2_with (first
    | ((with_reducible refine K.atO (.box 44 _) ?_); refine wpL_box rfl _ _ rfl _ rfl [.int .i64 tg, .string bs, .slice a kl sc] rfl ?_; intro w1 HB1 F1 HS1)
    | ((with_reducible refine K.atO (.load 44 _) ?_); refine wpL_load rfl _ _ rfl w.heap.size 0 rfl [.int .i64 tg, .string bs, .slice a kl sc] _ (HB1.out.range 0 _ rfl) rfl rfl infoN ?_)
    | fail)
  refine (pchildren_any 6 S2 n [.int .i64 tg, .string bs, .slice a kl sc] w1 (HD.out.no F1.out)).mono ?_
  rintro e w3 ⟨bn, rfl, hbn, hr, f3⟩
  have HBN : Hid (w.heap.size ≤ bn) := hid (Nat.le_trans F1.out.size hbn)
  have HNX : Hid (w.heap.size < bn) := hid (by have := HS1.out; omega)
  have HR0 := hid hr.start; have HF3 : Hid (Fr (fun k => k = bm) w w3) := hid ((F1.out.trans' f3).mono fun _ e => e.elim)
  have HBm := hid ((HB0.out.fr F1.out (fun e => e)).fr f3 (fun e => e)); have HBx := hid (HB1.out.fr f3 (fun e => e))
  have kop : w3.cell? ⟨bm, 1, none⟩ = some (.int .i64 op) := HBm.out.cell 1
  clear hbn hr f3 HB1 F1 HS1 HB0 k1
  go_wp2_with fail
  go_end0
  refine ⟨rfl, .slice none 0 0, .slice none 0 0, .slice none 0 0, .slice none 0 0, .slice none 0 0, ?_, ⟨⟨HID.out, HOT.out, i64z, i64z, i64z, i64z, i64z, i64z, i64z⟩, ⟨(Nat.zero_le _), (Nat.zero_le _), (Nat.zero_le _), (Nat.zero_le _), (Nat.zero_le _), (Nat.zero_le _), (Nat.zero_le _), (Nat.zero_le _)⟩, ⟨_, _, rfl, i64z, (Nat.zero_le _), (Nat.zero_le _), (Nat.zero_le _), (Nat.zero_le _), tx_none _ _, ⟨none, 0, rfl, Nat.le_refl _, by show (0 : Nat) ≤ _; omega, .inl rfl⟩⟩, tx_none _ _, ⟨none, 0, rfl, Nat.le_refl _, by show (0 : Nat) ≤ _; omega, .inl rfl⟩, ⟨none, 0, rfl, Nat.le_refl _, by show (0 : Nat) ≤ _; omega, .inl rfl⟩⟩, HF3.out⟩
  have h := HBm.out
  exact h
end Go.Proofs.Ythjmkfpdbbfcpaa.ME
