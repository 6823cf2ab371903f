/-
  Part 19 of the proof: MpN, MqB.
-/
import Derived.Test.YthjmkfpdbbfcpaaMn18
import Derived.Test.YthjmkfpdbbfcpaaMn08
set_option linter.unusedSimpArgs false
set_option linter.unusedVariables false
namespace Go.Proofs.Ythjmkfpdbbfcpaa.ME
set_option maxRecDepth 100000
open Go.RowKit K Go.Proofs.Ythjmkfpdbbfcpaa.BE Go.Proofs.Ythjmkfpdbbfcpaa.FR

theorem nb (a b : Int) (h : ¬ a = b) : (a == b) = false := by simpa using h
set_option maxHeartbeats 8000000 in
theorem wpieces_resp (M : Nat) (E : Nat → Prop) (m : Msg) (vk va vw vl vm : Value) (w : World) (h : MsgC M E w m vk va vw vl vm) (hop : ¬ m.op = 96 ∧ ¬ m.op = 99 ∧ ¬ m.op = 102 ∧ ¬ m.op = 104 ∧ ¬ m.op = 100 ∧ ¬ m.op = 108 ∧ ¬ m.op = 110) : Calls Try.prog 47 #[.agg (mcs m vk va vw vl vm).toArray] w (RowR 1 ([nuN 10 m.code, txN m.matched, txN m.text] ++ if m.op = 120 then [.mk 138 m.name []] else []) w) := by
  have H := hid h
  have g96 := nb _ _ hop.1
  have g99 := nb _ _ hop.2.1
  have g102 := nb _ _ hop.2.2.1
  have g104 := nb _ _ hop.2.2.2.1
  have g100 := nb _ _ hop.2.2.2.2.1
  have g108 := nb _ _ hop.2.2.2.2.2.1
  have g110 := nb _ _ hop.2.2.2.2.2.2
  have e : mcs m vk va vw vl vm = [.int .i64 m.id, .int .i64 m.op, .int .i64 m.ver, .string (sb m.name), .string (sb m.pw), .int .i64 m.scope, .int .i64 m.deref, .int .i64 m.size, .int .i64 m.time, .bool m.typesOnly, .int .i64 m.filter.kind, vk, .string (sb m.filter.type), .string (sb m.filter.value), .string (sb m.filter.first), va, .string (sb m.filter.last), vw, vl, vm, .string (sb m.rdn), .bool m.dropOld, .bool m.moves, .string (sb m.sup), .string (sb m.type), .string (sb m.value), .int .i64 m.target, .int .i64 m.code, .string (sb m.matched), .string (sb m.text)] := rfl
  have HE := hid e
  rw [e]
  obtain ⟨kids, hkids⟩ : ∃ k, ([nuN 10 m.code, txN m.matched, txN m.text] ++ if m.op = 120 then [Nd.mk 138 m.name []] else []) = k := ⟨_, rfl⟩
  rw [hkids]
  have HKD := hid hkids
  clear e hop h hkids
  go_enter Try.func47, Try.ntmps47
  go_wp2_with (first
    | ((with_reducible refine K.atO (.box 29 _) ?_); refine wpL_box rfl _ _ rfl _ rfl [.int .i64 m.id, .int .i64 m.op, .int .i64 m.ver, .string (sb m.name), .string (sb m.pw), .int .i64 m.scope, .int .i64 m.deref, .int .i64 m.size, .int .i64 m.time, .bool m.typesOnly, .int .i64 m.filter.kind, vk, .string (sb m.filter.type), .string (sb m.filter.value), .string (sb m.filter.first), va, .string (sb m.filter.last), vw, vl, vm, .string (sb m.rdn), .bool m.dropOld, .bool m.moves, .string (sb m.sup), .string (sb m.type), .string (sb m.value), .int .i64 m.target, .int .i64 m.code, .string (sb m.matched), .string (sb m.text)] rfl ?_; intro w1 HB1 F1 HS1; have c3 : w1.cell? ⟨w.heap.size, 3, none⟩ = some (.string (sb m.name)) := HB1.out.cell 3)
    | fail)
  refine (wtext_any (sb m.name) w1).mono ?_
  rintro e w2 ⟨rfl, f2⟩
  have HF2 := hid (F1.out.trans' f2); have HF12 := hid f2
  clear c3 f2
  go_wp2_with (first
    | ((with_reducible refine K.atO (.alloc 44) ?_); refine wpL_alloc rfl _ rfl _ zeroN [.int .i64 0, .string ⟨#[]⟩, .slice none 0 0] rfl ?_; intro w3 HB3 F3 HS3; have HF3 := hid (HF2.out.trans' F3.out); have HF13 := hid (HF12.out.trans' F3.out))
    | ((with_reducible refine K.atO (.store 44 _ _) ?_); refine wpL_storeV rfl _ _ _ rfl w2.heap.size 0 (.agg #[.int .i64 4, .string (sb m.name), .slice none 0 0]) [.int .i64 4, .string (sb m.name), .slice none 0 0] rfl rfl rfl _ _ HB3.out (by simp) infoN (by intro u hu; simp at hu; rcases hu with rfl | rfl | rfl <;> rfl) ?_; intro w4 HB4 F4 HS4; have HB14 : Hid (Blk w4 w.heap.size 29 [.int .i64 m.id, .int .i64 m.op, .int .i64 m.ver, .string (sb m.name), .string (sb m.pw), .int .i64 m.scope, .int .i64 m.deref, .int .i64 m.size, .int .i64 m.time, .bool m.typesOnly, .int .i64 m.filter.kind, vk, .string (sb m.filter.type), .string (sb m.filter.value), .string (sb m.filter.first), va, .string (sb m.filter.last), vw, vl, vm, .string (sb m.rdn), .bool m.dropOld, .bool m.moves, .string (sb m.sup), .string (sb m.type), .string (sb m.value), .int .i64 m.target, .int .i64 m.code, .string (sb m.matched), .string (sb m.text)]) := hid ((HB1.out.fr HF13.out id).fr F4.out (fun e => by have e : w.heap.size = w2.heap.size := e; have := HS1.out; have := HF12.out.size; omega)); have HF4 := hid (HF3.out.trans F4.out fun k e => .inr (by have e : k = w2.heap.size := e; have := HF2.out.size; omega)); have c1 : w4.cell? ⟨w.heap.size, 1, none⟩ = some (.int .i64 m.op) := HB14.out.cell 1)
    | ((with_reducible refine K.atO (.load 29 _) ?_); refine wpL_load rfl _ _ rfl w.heap.size 0 rfl [.int .i64 m.id, .int .i64 m.op, .int .i64 m.ver, .string (sb m.name), .string (sb m.pw), .int .i64 m.scope, .int .i64 m.deref, .int .i64 m.size, .int .i64 m.time, .bool m.typesOnly, .int .i64 m.filter.kind, vk, .string (sb m.filter.type), .string (sb m.filter.value), .string (sb m.filter.first), va, .string (sb m.filter.last), vw, vl, vm, .string (sb m.rdn), .bool m.dropOld, .bool m.moves, .string (sb m.sup), .string (sb m.type), .string (sb m.value), .int .i64 m.target, .int .i64 m.code, .string (sb m.matched), .string (sb m.text)] _ (HB14.out.range 0 _ rfl) rfl rfl infoMsg ?_)
    | fail)
  rw [← HE.out]
  by_cases h120 : m.op = 120
  · refine (wresponse_120 M E m vk va vw vl vm w4 (H.out.no HF4.out) h120).mono ?_
    rintro e w5 ⟨v, L, b, rfl, hb, hk, f5⟩
    have hkd := HKD.out
    rw [if_pos h120] at hkd
    rw [hkd] at hk
    have HK := hid hk; have HB := hid hb; have HF5 := hid (HF4.out.trans' f5)
    obtain ⟨a, c, rfl, -, -⟩ := own_form hk.r
    clear hk hb f5
    go_wp2_with fail
    go_ret
    exact ⟨_, L, b, rfl, Nat.le_trans HF4.out.size HB.out, HK.out, HF5.out⟩
  · refine (wresponse_any M E m vk va vw vl vm w4 (H.out.no HF4.out) h120).mono ?_
    rintro e w5 ⟨v, L, b, rfl, hb, hk, f5⟩
    have hkd := HKD.out
    rw [if_neg h120, List.append_nil] at hkd
    rw [hkd] at hk
    have HK := hid hk; have HB := hid hb; have HF5 := hid (HF4.out.trans' f5)
    obtain ⟨a, c, rfl, -, -⟩ := own_form hk.r
    clear hk hb f5
    go_wp2_with fail
    go_ret
    exact ⟨_, L, b, rfl, Nat.le_trans HF4.out.size HB.out, HK.out, HF5.out⟩
set_option maxHeartbeats 8000000 in
theorem woper_66 (M : Nat) (E : Nat → Prop) (m : Msg) (vk va vw vl vm : Value) (w : World) (h : MsgC M E w m vk va vw vl vm) (hop : m.op = 66) : Calls Try.prog 25 #[.agg (mcs m vk va vw vl vm).toArray] w (Makes 9 (.mk 66 [] []) w) := by
  have H := hid h
  have e : mcs m vk va vw vl vm = [.int .i64 m.id, .int .i64 66, .int .i64 m.ver, .string (sb m.name), .string (sb m.pw), .int .i64 m.scope, .int .i64 m.deref, .int .i64 m.size, .int .i64 m.time, .bool m.typesOnly, .int .i64 m.filter.kind, vk, .string (sb m.filter.type), .string (sb m.filter.value), .string (sb m.filter.first), va, .string (sb m.filter.last), vw, vl, vm, .string (sb m.rdn), .bool m.dropOld, .bool m.moves, .string (sb m.sup), .string (sb m.type), .string (sb m.value), .int .i64 m.target, .int .i64 m.code, .string (sb m.matched), .string (sb m.text)] := by unfold mcs; rw [hop]
  rw [e]
  clear e hop
  obtain ⟨ic, hic, hzc, hsc, hbc⟩ := Go.info_parts infozN
  have IC := hid hic; have ZC := hid hzc; have SC := hid hsc; have BC := hid hbc
  clear hic hzc hsc hbc
  clear h
  go_enter Try.func25, Try.ntmps25
  go_wp2_with (first
    | ((with_reducible refine K.atO (.box 29 _) ?_); refine wpL_box rfl _ _ rfl _ rfl [.int .i64 m.id, .int .i64 66, .int .i64 m.ver, .string (sb m.name), .string (sb m.pw), .int .i64 m.scope, .int .i64 m.deref, .int .i64 m.size, .int .i64 m.time, .bool m.typesOnly, .int .i64 m.filter.kind, vk, .string (sb m.filter.type), .string (sb m.filter.value), .string (sb m.filter.first), va, .string (sb m.filter.last), vw, vl, vm, .string (sb m.rdn), .bool m.dropOld, .bool m.moves, .string (sb m.sup), .string (sb m.type), .string (sb m.value), .int .i64 m.target, .int .i64 m.code, .string (sb m.matched), .string (sb m.text)] rfl ?_; intro w1 HB1 F1 HS1)
    | ((with_reducible refine K.atO (.alloc 44) ?_); refine wpL_alloc rfl _ rfl _ zeroN [.int .i64 0, .string ⟨#[]⟩, .slice none 0 0] rfl ?_; intro w2 HB2 F2 HS2; have HB1' := hid (HB1.out.fr F2.out id); have HF2 := hid (F1.out.trans' F2.out); have c1 : w2.cell? ⟨w.heap.size, 1, none⟩ = some (.int .i64 66) := HB1'.out.cell 1; have c3 : w2.cell? ⟨w.heap.size, 3, none⟩ = some (.string (sb m.name)) := HB1'.out.cell 3)
    | fail)
  refine (wleaf_any 66 ⟨#[]⟩ w2).mono ?_
  rintro e w3 ⟨rfl, f3⟩
  have HBr := hid (HB2.out.fr f3 id); have HF3 := hid (HF2.out.trans' f3)
  clear f3 c1 c3
  go_wp2_with (first
    | ((with_reducible refine K.atO (.store 44 _ _) ?_); refine wpL_storeV rfl _ _ _ rfl w1.heap.size 0 (.agg #[.int .i64 66, .string ⟨#[]⟩, .slice none 0 0]) [.int .i64 66, .string ⟨#[]⟩, .slice none 0 0] rfl rfl rfl _ _ HBr.out (by simp) infoN (by intro u hu; simp at hu; rcases hu with rfl | rfl | rfl <;> rfl) ?_; intro wz HBz Fz HSz)
    | fail)
  refine ret_cell rfl _ rfl HBz.out rfl rfl infoN rfl ?_
  exact ⟨_, rfl, leaf_any 8 _ _ 66 [] ⟨by omega, by omega⟩ (Nat.zero_le _), HF3.out.trans Fz.out fun k e => .inr (by have e : k = w1.heap.size := e; have := HS1.out; omega)⟩
set_option maxHeartbeats 8000000 in
theorem woper_74 (M : Nat) (E : Nat → Prop) (m : Msg) (vk va vw vl vm : Value) (w : World) (h : MsgC M E w m vk va vw vl vm) (hop : m.op = 74) : Calls Try.prog 25 #[.agg (mcs m vk va vw vl vm).toArray] w (Makes 9 (.mk 74 m.name []) w) := by
  have H := hid h
  have e : mcs m vk va vw vl vm = [.int .i64 m.id, .int .i64 74, .int .i64 m.ver, .string (sb m.name), .string (sb m.pw), .int .i64 m.scope, .int .i64 m.deref, .int .i64 m.size, .int .i64 m.time, .bool m.typesOnly, .int .i64 m.filter.kind, vk, .string (sb m.filter.type), .string (sb m.filter.value), .string (sb m.filter.first), va, .string (sb m.filter.last), vw, vl, vm, .string (sb m.rdn), .bool m.dropOld, .bool m.moves, .string (sb m.sup), .string (sb m.type), .string (sb m.value), .int .i64 m.target, .int .i64 m.code, .string (sb m.matched), .string (sb m.text)] := by unfold mcs; rw [hop]
  rw [e]
  clear e hop
  obtain ⟨ic, hic, hzc, hsc, hbc⟩ := Go.info_parts infozN
  have IC := hid hic; have ZC := hid hzc; have SC := hid hsc; have BC := hid hbc
  clear hic hzc hsc hbc
  clear h
  go_enter Try.func25, Try.ntmps25
  go_wp2_with (first
    | ((with_reducible refine K.atO (.box 29 _) ?_); refine wpL_box rfl _ _ rfl _ rfl [.int .i64 m.id, .int .i64 74, .int .i64 m.ver, .string (sb m.name), .string (sb m.pw), .int .i64 m.scope, .int .i64 m.deref, .int .i64 m.size, .int .i64 m.time, .bool m.typesOnly, .int .i64 m.filter.kind, vk, .string (sb m.filter.type), .string (sb m.filter.value), .string (sb m.filter.first), va, .string (sb m.filter.last), vw, vl, vm, .string (sb m.rdn), .bool m.dropOld, .bool m.moves, .string (sb m.sup), .string (sb m.type), .string (sb m.value), .int .i64 m.target, .int .i64 m.code, .string (sb m.matched), .string (sb m.text)] rfl ?_; intro w1 HB1 F1 HS1)
    | ((with_reducible refine K.atO (.alloc 44) ?_); refine wpL_alloc rfl _ rfl _ zeroN [.int .i64 0, .string ⟨#[]⟩, .slice none 0 0] rfl ?_; intro w2 HB2 F2 HS2; have HB1' := hid (HB1.out.fr F2.out id); have HF2 := hid (F1.out.trans' F2.out); have c1 : w2.cell? ⟨w.heap.size, 1, none⟩ = some (.int .i64 74) := HB1'.out.cell 1; have c3 : w2.cell? ⟨w.heap.size, 3, none⟩ = some (.string (sb m.name)) := HB1'.out.cell 3)
    | fail)
  refine (wleaf_any 74 (sb m.name) w2).mono ?_
  rintro e w3 ⟨rfl, f3⟩
  have HBr := hid (HB2.out.fr f3 id); have HF3 := hid (HF2.out.trans' f3)
  clear f3 c1 c3
  go_wp2_with (first
    | ((with_reducible refine K.atO (.store 44 _ _) ?_); refine wpL_storeV rfl _ _ _ rfl w1.heap.size 0 (.agg #[.int .i64 74, .string (sb m.name), .slice none 0 0]) [.int .i64 74, .string (sb m.name), .slice none 0 0] rfl rfl rfl _ _ HBr.out (by simp) infoN (by intro u hu; simp at hu; rcases hu with rfl | rfl | rfl <;> rfl) ?_; intro wz HBz Fz HSz)
    | fail)
  refine ret_cell rfl _ rfl HBz.out rfl rfl infoN rfl ?_
  exact ⟨_, rfl, leaf_any 8 _ _ 74 m.name ⟨by omega, by omega⟩ (H.out.texts.1), HF3.out.trans Fz.out fun k e => .inr (by have e : k = w1.heap.size := e; have := HS1.out; omega)⟩
set_option maxHeartbeats 8000000 in
theorem woper_80 (M : Nat) (E : Nat → Prop) (m : Msg) (vk va vw vl vm : Value) (w : World) (h : MsgC M E w m vk va vw vl vm) (hop : m.op = 80) : Calls Try.prog 25 #[.agg (mcs m vk va vw vl vm).toArray] w (Makes 9 (.mk 80 (intS m.target) []) w) := by
  have H := hid h
  have e : mcs m vk va vw vl vm = [.int .i64 m.id, .int .i64 80, .int .i64 m.ver, .string (sb m.name), .string (sb m.pw), .int .i64 m.scope, .int .i64 m.deref, .int .i64 m.size, .int .i64 m.time, .bool m.typesOnly, .int .i64 m.filter.kind, vk, .string (sb m.filter.type), .string (sb m.filter.value), .string (sb m.filter.first), va, .string (sb m.filter.last), vw, vl, vm, .string (sb m.rdn), .bool m.dropOld, .bool m.moves, .string (sb m.sup), .string (sb m.type), .string (sb m.value), .int .i64 m.target, .int .i64 m.code, .string (sb m.matched), .string (sb m.text)] := by unfold mcs; rw [hop]
  rw [e]
  clear e hop
  obtain ⟨ic, hic, hzc, hsc, hbc⟩ := Go.info_parts infozN
  have IC := hid hic; have ZC := hid hzc; have SC := hid hsc; have BC := hid hbc
  clear hic hzc hsc hbc
  clear h
  go_enter Try.func25, Try.ntmps25
  go_wp2_with (first
    | ((with_reducible refine K.atO (.box 29 _) ?_); refine wpL_box rfl _ _ rfl _ rfl [.int .i64 m.id, .int .i64 80, .int .i64 m.ver, .string (sb m.name), .string (sb m.pw), .int .i64 m.scope, .int .i64 m.deref, .int .i64 m.size, .int .i64 m.time, .bool m.typesOnly, .int .i64 m.filter.kind, vk, .string (sb m.filter.type), .string (sb m.filter.value), .string (sb m.filter.first), va, .string (sb m.filter.last), vw, vl, vm, .string (sb m.rdn), .bool m.dropOld, .bool m.moves, .string (sb m.sup), .string (sb m.type), .string (sb m.value), .int .i64 m.target, .int .i64 m.code, .string (sb m.matched), .string (sb m.text)] rfl ?_; intro w1 HB1 F1 HS1)
    | ((with_reducible refine K.atO (.alloc 44) ?_); refine wpL_alloc rfl _ rfl _ zeroN [.int .i64 0, .string ⟨#[]⟩, .slice none 0 0] rfl ?_; intro w2 HB2 F2 HS2; have HB1' := hid (HB1.out.fr F2.out id); have HF2 := hid (F1.out.trans' F2.out); have c1 : w2.cell? ⟨w.heap.size, 1, none⟩ = some (.int .i64 80) := HB1'.out.cell 1; have c26 : w2.cell? ⟨w.heap.size, 26, none⟩ = some (.int .i64 m.target) := HB1'.out.cell 26)
    | fail)
  have hold : Facts.hold [(1, fun w' => w'.cell? ⟨w.heap.size, 1, none⟩ = some (.int .i64 80)), (3, fun w' => w'.cell? ⟨w.heap.size, 26, none⟩ = some (.int .i64 m.target))] w2.drew := Facts.cons_hold c1 (Facts.cons_hold c26 (Facts.nil_hold _))
  refine wpD_region hold (by kernel_rfl) 7 rfl ?_
  (refine wpD_plain 0 (v := ?_) rfl (by kernel_rfl) (by kernel_rfl) (by kernel_rfl) (fun _ _ _ h => h) (by rfl) ?_ (by assumption) ?_; rotate_left; (intro _w; go_simp; try with_reducible rfl); simp only [Act.put, K.put3])
  (refine wpD_take 1 _ rfl (by kernel_rfl) (by kernel_rfl) (by kernel_rfl) (fun _ _ _ h => h) List.mem_cons_self (by rfl) (v := ?_) ?_ (by assumption) ?_; rotate_left; (intro _w _hw; go_simp; try with_reducible rfl); simp only [Act.put, K.put3])
  (refine wpD_plain 2 (v := ?_) rfl (by kernel_rfl) (by kernel_rfl) (by kernel_rfl) (fun _ _ _ h => h) (by rfl) ?_ (by assumption) ?_; rotate_left; (intro _w; go_simp; try with_reducible rfl); simp only [Act.put, K.put3])
  (refine wpD_take 3 _ rfl (by kernel_rfl) (by kernel_rfl) (by kernel_rfl) (fun _ _ _ h => h) (List.mem_cons_of_mem _ List.mem_cons_self) (by rfl) (v := ?_) ?_ (by assumption) ?_; rotate_left; (intro _w _hw; go_simp; try with_reducible rfl); simp only [Act.put, K.put3])
  clear hold
  refine wpD_only 4 [(1, fun w' => w'.cell? ⟨w.heap.size, 1, none⟩ = some (.int .i64 80))] rfl (by kernel_rfl) (by kernel_rfl) (by rfl) (fun K4 hK4 => ?_)
  refine wp_call _ _ _ rfl 46 [] rfl (fun vs w => by kernel_rfl) [.int .i64 m.target] (by rfl) ?_
  refine (int_any 7 m.target w2.drew (Nat.le_refl _) (by have h := H.out.ints.2.2.2.2.2.2.2.1.1; omega) (by have h := H.out.ints.2.2.2.2.2.2.2.1.2; omega) H.out.ints.2.2.2.2.2.2.2.1).mono ?_
  rintro e w1c ⟨rfl, f1⟩
  have hf1 : Fr No w2 w1c := (Fr.refl No w2).drew.trans' f1
  refine ⟨_, rfl, hK4 _ _ (Facts.cons_hold (hf1.cell c1 id) (Facts.nil_hold _)) ?_⟩
  have k1_1 := hf1.cell c1 id
  have HF1 := hid (HF2.out.trans' hf1)
  have HG1 := hid hf1
  clear hK4 K4 f1 hf1 c1 c26
  simp only [Act.put, K.put3]
  obtain ⟨S, hS⟩ : ∃ S, sb (intS m.target) = S := ⟨_, rfl⟩
  have hS' : sb (intG 7 m.target) = S := hS
  rw [hS']
  have HSS := hid hS
  clear hS hS'
  refine wpD_only 5 [] rfl (by kernel_rfl) (by kernel_rfl) (by rfl) (fun K5 hK5 => ?_)
  refine wp_call _ _ _ rfl 45 [] rfl (fun vs w => by kernel_rfl) [.int .i64 80, .string S] (by rfl) ?_
  refine (wleaf_any 80 S w1c).mono ?_
  rintro e w2c ⟨rfl, f2⟩
  have hf2 : Fr No w1c w2c := f2
  refine ⟨_, rfl, hK5 _ _ (Facts.nil_hold _) ?_⟩
  have HF2 := hid (HF1.out.trans' hf2)
  have HG2 := hid (HG1.out.trans' hf2)
  clear hK5 K5 f2 hf2 k1_1 HG1 HF1
  simp only [Act.put, K.put3]
  have HWH := hid (show NdAt 1 (Since w2.heap.size) w2c (.mk 80 (intS m.target) []) [.int .i64 80, .string S, .slice none 0 0] by rw [← HSS.out]; exact leaf_any 0 _ _ 80 _ ⟨by omega, by omega⟩ (int_szI m.target))
  have HBr := hid (HB2.out.fr HG2.out id)
  refine wpD_only 6 [] rfl (by kernel_rfl) (by kernel_rfl) (by rfl) (fun K6 hK6 => ?_)
  refine wp_storeV _ _ _ rfl w1.heap.size 0 (.agg #[.int .i64 80, .string S, .slice none 0 0]) [.int .i64 80, .string S, .slice none 0 0] rfl rfl rfl _ _ HBr.out (by simp) infoN (by intro u hu; simp at hu; rcases hu with rfl | rfl | rfl <;> rfl) ?_
  intro wz HBz Fz HSz
  refine hK6 _ _ (Facts.nil_hold _) ?_
  clear hK6 K6
  simp only [Act.put, K.put3]
  refine wpD_done (by kernel_rfl) ?_ _
  have HFz := hid (HF2.out.trans Fz.out fun k e => .inr (by have e : k = w1.heap.size := e; have := HS1.out; omega))
  have HNz := hid (since_le (N' := w.heap.size) (NdAt.fr Fz.out (fun k hk _ e => by have h : w2.heap.size ≤ k := hk; have e : k = w1.heap.size := e; have := HS2.out; omega) HWH.out) (by have := HS1.out; have := HS2.out; omega))
  go_wp2_with fail
  refine ret_cell rfl _ rfl HBz.out rfl rfl infoN rfl ?_
  exact ⟨_, rfl, nd_le HNz.out (by omega), HFz.out⟩
set_option maxHeartbeats 8000000 in
theorem woper_else (M : Nat) (E : Nat → Prop) (m : Msg) (vk va vw vl vm : Value) (w : World) (h : MsgC M E w m vk va vw vl vm) (kids : List Nd) (hop : ¬ m.op = 66 ∧ ¬ m.op = 74 ∧ ¬ m.op = 80) (hk : kids.length ≤ 1048576) (hp : ∀ w', Fr No w w' → Calls Try.prog 47 #[.agg (mcs m vk va vw vl vm).toArray] w' (RowR 8 kids w')) : Calls Try.prog 25 #[.agg (mcs m vk va vw vl vm).toArray] w (Makes 9 (.mk m.op [] kids) w) := by
  have H := hid h
  have g66 := nb _ _ hop.1
  have g74 := nb _ _ hop.2.1
  have g80 := nb _ _ hop.2.2
  have e : mcs m vk va vw vl vm = [.int .i64 m.id, .int .i64 m.op, .int .i64 m.ver, .string (sb m.name), .string (sb m.pw), .int .i64 m.scope, .int .i64 m.deref, .int .i64 m.size, .int .i64 m.time, .bool m.typesOnly, .int .i64 m.filter.kind, vk, .string (sb m.filter.type), .string (sb m.filter.value), .string (sb m.filter.first), va, .string (sb m.filter.last), vw, vl, vm, .string (sb m.rdn), .bool m.dropOld, .bool m.moves, .string (sb m.sup), .string (sb m.type), .string (sb m.value), .int .i64 m.target, .int .i64 m.code, .string (sb m.matched), .string (sb m.text)] := rfl
  have HP := hid hp; have HKL := hid hk
  rw [e] at HP
  rw [e]
  have HI := hid (show (Try.prog.info? 29).map (·.size) = some [Value.int .i64 m.id, .int .i64 m.op, .int .i64 m.ver, .string (sb m.name), .string (sb m.pw), .int .i64 m.scope, .int .i64 m.deref, .int .i64 m.size, .int .i64 m.time, .bool m.typesOnly, .int .i64 m.filter.kind, vk, .string (sb m.filter.type), .string (sb m.filter.value), .string (sb m.filter.first), va, .string (sb m.filter.last), vw, vl, vm, .string (sb m.rdn), .bool m.dropOld, .bool m.moves, .string (sb m.sup), .string (sb m.type), .string (sb m.value), .int .i64 m.target, .int .i64 m.code, .string (sb m.matched), .string (sb m.text)].length from infoMsg)
  clear e hop hp hk
  obtain ⟨ic, hic, hzc, hsc, hbc⟩ := Go.info_parts infozN
  have IC := hid hic; have ZC := hid hzc; have SC := hid hsc; have BC := hid hbc
  clear hic hzc hsc hbc
  clear h
  go_enter Try.func25, Try.ntmps25
  go_wp2_with (first
    | ((with_reducible refine K.atO (.box 29 _) ?_); refine wpL_box rfl _ _ rfl _ rfl [.int .i64 m.id, .int .i64 m.op, .int .i64 m.ver, .string (sb m.name), .string (sb m.pw), .int .i64 m.scope, .int .i64 m.deref, .int .i64 m.size, .int .i64 m.time, .bool m.typesOnly, .int .i64 m.filter.kind, vk, .string (sb m.filter.type), .string (sb m.filter.value), .string (sb m.filter.first), va, .string (sb m.filter.last), vw, vl, vm, .string (sb m.rdn), .bool m.dropOld, .bool m.moves, .string (sb m.sup), .string (sb m.type), .string (sb m.value), .int .i64 m.target, .int .i64 m.code, .string (sb m.matched), .string (sb m.text)] rfl ?_; intro w1 HB1 F1 HS1)
    | ((with_reducible refine K.atO (.alloc 44) ?_); refine wpL_alloc rfl _ rfl _ zeroN [.int .i64 0, .string ⟨#[]⟩, .slice none 0 0] rfl ?_; intro w2 HB2 F2 HS2; have HB1' := hid (HB1.out.fr F2.out id); have HF2 := hid (F1.out.trans' F2.out); have c1 : w2.cell? ⟨w.heap.size, 1, none⟩ = some (.int .i64 m.op) := HB1'.out.cell 1)
    | fail)
  have rm : w2.rangeAt w.heap.size 0 [.int .i64 m.id, .int .i64 m.op, .int .i64 m.ver, .string (sb m.name), .string (sb m.pw), .int .i64 m.scope, .int .i64 m.deref, .int .i64 m.size, .int .i64 m.time, .bool m.typesOnly, .int .i64 m.filter.kind, vk, .string (sb m.filter.type), .string (sb m.filter.value), .string (sb m.filter.first), va, .string (sb m.filter.last), vw, vl, vm, .string (sb m.rdn), .bool m.dropOld, .bool m.moves, .string (sb m.sup), .string (sb m.type), .string (sb m.value), .int .i64 m.target, .int .i64 m.code, .string (sb m.matched), .string (sb m.text)] := HB1'.out.range 0 _ rfl
  have hold : Facts.hold [(1, fun w' => w'.cell? ⟨w.heap.size, 1, none⟩ = some (.int .i64 m.op)), (2, fun w' => w'.rangeAt w.heap.size 0 [.int .i64 m.id, .int .i64 m.op, .int .i64 m.ver, .string (sb m.name), .string (sb m.pw), .int .i64 m.scope, .int .i64 m.deref, .int .i64 m.size, .int .i64 m.time, .bool m.typesOnly, .int .i64 m.filter.kind, vk, .string (sb m.filter.type), .string (sb m.filter.value), .string (sb m.filter.first), va, .string (sb m.filter.last), vw, vl, vm, .string (sb m.rdn), .bool m.dropOld, .bool m.moves, .string (sb m.sup), .string (sb m.type), .string (sb m.value), .int .i64 m.target, .int .i64 m.code, .string (sb m.matched), .string (sb m.text)])] w2.drew := Facts.cons_hold c1 (Facts.cons_hold rm (Facts.nil_hold _))
  refine wpD_region hold (by kernel_rfl) 6 rfl ?_
  (refine wpD_plain 0 (v := ?_) rfl (by kernel_rfl) (by kernel_rfl) (by kernel_rfl) (fun _ _ _ h => h) (by rfl) ?_ (by assumption) ?_; rotate_left; (intro _w; go_simp; try with_reducible rfl); simp only [Act.put, K.put3])
  (refine wpD_take 1 _ rfl (by kernel_rfl) (by kernel_rfl) (by kernel_rfl) (fun _ _ _ h => h) List.mem_cons_self (by rfl) (v := ?_) ?_ (by assumption) ?_; rotate_left; (intro _w _hw; go_simp; try with_reducible rfl); simp only [Act.put, K.put3])
  (refine wpD_take 2 _ rfl (by kernel_rfl) (by kernel_rfl) (by kernel_rfl) (fun _ _ _ h => h) (List.mem_cons_of_mem _ List.mem_cons_self) (by rfl) (exec_load _ _ rfl w.heap.size 0 rfl _ _ rfl rfl HI.out) (by assumption) ?_; simp only [Act.put, K.put3])
  clear hold
  refine wpD_only 3 [(1, fun w' => w'.cell? ⟨w.heap.size, 1, none⟩ = some (.int .i64 m.op))] rfl (by kernel_rfl) (by kernel_rfl) (by rfl) (fun K3 hK3 => ?_)
  refine wp_call _ _ _ rfl 47 [] rfl (fun vs w => by kernel_rfl) [.agg #[.int .i64 m.id, .int .i64 m.op, .int .i64 m.ver, .string (sb m.name), .string (sb m.pw), .int .i64 m.scope, .int .i64 m.deref, .int .i64 m.size, .int .i64 m.time, .bool m.typesOnly, .int .i64 m.filter.kind, vk, .string (sb m.filter.type), .string (sb m.filter.value), .string (sb m.filter.first), va, .string (sb m.filter.last), vw, vl, vm, .string (sb m.rdn), .bool m.dropOld, .bool m.moves, .string (sb m.sup), .string (sb m.type), .string (sb m.value), .int .i64 m.target, .int .i64 m.code, .string (sb m.matched), .string (sb m.text)]] (by rfl) ?_
  refine (HP.out w2.drew (HF2.out.trans' (Fr.refl No _).drew)).mono ?_
  rintro e w1c ⟨pv, pL, pb, rfl, hbs, hkr, f1⟩
  have hf1 : Fr No w2 w1c := (Fr.refl No w2).drew.trans' f1
  refine ⟨_, rfl, hK3 _ _ (Facts.cons_hold (hf1.cell c1 id) (Facts.nil_hold _)) ?_⟩
  have k1_1 := hf1.cell c1 id
  have HF1 := hid (HF2.out.trans' hf1)
  have HG1 := hid hf1
  obtain ⟨pa, pc, rfl, -, -⟩ := own_form hkr.r
  obtain ⟨pn, hpn⟩ : ∃ n, kids.length = n := ⟨_, rfl⟩
  rw [hpn]
  have HPN : Hid (NdAt 9 (Since w2.heap.size) w1c (.mk m.op [] kids) [.int .i64 m.op, .string ⟨#[]⟩, .slice pa pn pc]) := hid (since_le (by have h := kr_nd (t := m.op) hkr H.out.ints.2.1 (by have := HKL.out; omega); rw [hpn] at h; exact h) (Nat.le_trans (Fr.refl No w2).drew.size hbs))
  clear hkr hbs hpn
  clear hK3 K3 f1 hf1 c1 rm
  simp only [Act.put, K.put3]
  refine wpD_only 4 [] rfl (by kernel_rfl) (by kernel_rfl) (by rfl) (fun K4 hK4 => ?_)
  refine wp_call _ _ _ rfl 23 [] rfl (fun vs w => by kernel_rfl) [.int .i64 m.op, .slice pa pn pc] (by rfl) ?_
  refine (wof_any m.op pa pn pc w1c).mono ?_
  rintro e w2c ⟨rfl, f2⟩
  have hf2 : Fr No w1c w2c := f2
  refine ⟨_, rfl, hK4 _ _ (Facts.nil_hold _) ?_⟩
  have HM2_p := hid (HPN.out.no hf2)
  have HF2 := hid (HF1.out.trans' hf2)
  have HG2 := hid (HG1.out.trans' hf2)
  clear hK4 K4 f2 hf2 k1_1 HPN HG1 HF1
  simp only [Act.put, K.put3]
  have HWH := hid (HM2_p.out)
  have HBr := hid (HB2.out.fr HG2.out id)
  refine wpD_only 5 [] rfl (by kernel_rfl) (by kernel_rfl) (by rfl) (fun K5 hK5 => ?_)
  refine wp_storeV _ _ _ rfl w1.heap.size 0 (.agg #[.int .i64 m.op, .string ⟨#[]⟩, .slice pa pn pc]) [.int .i64 m.op, .string ⟨#[]⟩, .slice pa pn pc] rfl rfl rfl _ _ HBr.out (by simp) infoN (by intro u hu; simp at hu; rcases hu with rfl | rfl | rfl <;> rfl) ?_
  intro wz HBz Fz HSz
  refine hK5 _ _ (Facts.nil_hold _) ?_
  clear hK5 K5
  simp only [Act.put, K.put3]
  refine wpD_done (by kernel_rfl) ?_ _
  have HFz := hid (HF2.out.trans Fz.out fun k e => .inr (by have e : k = w1.heap.size := e; have := HS1.out; omega))
  have HNz := hid (since_le (N' := w.heap.size) (NdAt.fr Fz.out (fun k hk _ e => by have h : w2.heap.size ≤ k := hk; have e : k = w1.heap.size := e; have := HS2.out; omega) HWH.out) (by have := HS1.out; have := HS2.out; omega))
  go_wp2_with fail
  refine ret_cell rfl _ rfl HBz.out rfl rfl infoN rfl ?_
  exact ⟨_, rfl, nd_le HNz.out (by omega), HFz.out⟩
/-- What the program asks of a message that it writes: no list in it is too long. -/
structure WB (m : Msg) : Prop where
  f : FlB 1048576 6 m.filter
  w : m.wants.length ≤ 1048576
  l : m.list.length ≤ 1048576 ∧ ∀ x ∈ m.list, x.values.length ≤ 1048576
  d : m.mods.length ≤ 1048576 ∧ ∀ x ∈ m.mods, x.attr.values.length ≤ 1048576
theorem Makes.eq {M : Nat} {n n' : Nd} {w : World} {e : Ending} {w' : World} (h : Makes M n w e w') (hn : n = n') : Makes M n' w e w' := hn ▸ h
theorem woper_any (M : Nat) (E : Nat → Prop) (m : Msg) (vk va vw vl vm : Value) (w : World) (h : MsgC M E w m vk va vw vl vm) (hr : rightM m = true) (hb : WB m) : Calls Try.prog 25 #[.agg (mcs m vk va vw vl vm).toArray] w (Makes 9 (opN m) w) := by
  have hr0 := hr
  simp only [rightM, Bool.and_eq_true] at hr
  obtain ⟨⟨⟨⟨⟨⟨⟨⟨⟨⟨⟨⟨h1, -⟩, -⟩, -⟩, h5⟩, -⟩, -⟩, -⟩, -⟩, -⟩, -⟩, -⟩, -⟩ := hr
  have hop : m.op = 97 ∨ m.op = 101 ∨ m.op = 103 ∨ m.op = 105 ∨ m.op = 107 ∨ m.op = 109 ∨ m.op = 111 ∨ m.op = 120 ∨ m.op = 96 ∨ m.op = 66 ∨ m.op = 99 ∨ m.op = 102 ∨ m.op = 104 ∨ m.op = 100 ∨ m.op = 74 ∨ m.op = 108 ∨ m.op = 110 ∨ m.op = 80 := by
    simpa [namO, ansO, or_assoc] using h1
  have resp : (m.op = 97 ∨ m.op = 101 ∨ m.op = 103 ∨ m.op = 105 ∨ m.op = 107 ∨ m.op = 109 ∨ m.op = 111 ∨ m.op = 120) → Calls Try.prog 25 #[.agg (mcs m vk va vw vl vm).toArray] w (Makes 9 (opN m) w) := fun ho => by
    have e : Nd.mk m.op [] ([nuN 10 m.code, txN m.matched, txN m.text] ++ if m.op = 120 then [.mk 138 m.name []] else []) = opN m := by
      unfold opN
      rcases ho with h | h | h | h | h | h | h | h <;> simp [h]
    refine (woper_else M E m vk va vw vl vm w h _ (by omega) (by split <;> simp) (fun w' hf => ?_)).mono fun _ _ hm => hm.eq e
    exact (wpieces_resp M E m vk va vw vl vm w' (h.no hf) (by omega)).mono fun _ _ hm => hm.le (by omega)
  rcases hop with h0 | h0 | h0 | h0 | h0 | h0 | h0 | h0 | h0 | h0 | h0 | h0 | h0 | h0 | h0 | h0 | h0 | h0
  · exact resp (by omega)
  · exact resp (by omega)
  · exact resp (by omega)
  · exact resp (by omega)
  · exact resp (by omega)
  · exact resp (by omega)
  · exact resp (by omega)
  · exact resp (by omega)
  · have e : Nd.mk m.op [] [nuN 2 m.ver, txN m.name, .mk 128 m.pw []] = opN m := by unfold opN; simp [h0]
    exact (woper_else M E m vk va vw vl vm w h _ (by omega) (by simp) (fun w' hf => wpieces_bind M E m vk va vw vl vm w' (h.no hf) h0)).mono fun _ _ hm => hm.eq e
  · have e : Nd.mk 66 [] [] = opN m := by unfold opN; simp [h0]
    exact (woper_66 M E m vk va vw vl vm w h h0).mono fun _ _ hm => hm.eq e
  · have e : Nd.mk m.op [] [txN m.name, nuN 10 m.scope, nuN 10 m.deref, nuN 2 m.size, nuN 2 m.time, trN m.typesOnly, pieceF 6 m.filter, txsN 48 m.wants] = opN m := by unfold opN; simp [h0]
    have hf6 : rightF 6 m.filter = true := by
      rw [h0] at h5
      simp only [if_true, Bool.and_eq_true] at h5
      exact h5.1.1.1.1
    exact (woper_else M E m vk va vw vl vm w h _ (by omega) (by simp) (fun w' hf => wpieces_search M E m vk va vw vl vm w' (h.no hf) h0 hf6 hb.f hb.w)).mono fun _ _ hm => hm.eq e
  · have e : Nd.mk m.op [] [txN m.name, .mk 48 [] (m.mods.map moN)] = opN m := by unfold opN; simp [h0]
    exact (woper_else M E m vk va vw vl vm w h _ (by omega) (by simp) (fun w' hf => wpieces_modify M E m vk va vw vl vm w' (h.no hf) h0 hb.d.1 hb.d.2)).mono fun _ _ hm => hm.eq e
  · have e : Nd.mk m.op [] [txN m.name, .mk 48 [] (m.list.map atN)] = opN m := by unfold opN; simp [h0]
    exact (woper_else M E m vk va vw vl vm w h _ (by omega) (by simp) (fun w' hf => wpieces_list104 M E m vk va vw vl vm w' (h.no hf) h0 hb.l.1 hb.l.2)).mono fun _ _ hm => hm.eq e
  · have e : Nd.mk m.op [] [txN m.name, .mk 48 [] (m.list.map atN)] = opN m := by unfold opN; simp [h0]
    exact (woper_else M E m vk va vw vl vm w h _ (by omega) (by simp) (fun w' hf => wpieces_list100 M E m vk va vw vl vm w' (h.no hf) h0 hb.l.1 hb.l.2)).mono fun _ _ hm => hm.eq e
  · have e : Nd.mk 74 m.name [] = opN m := by unfold opN; simp [h0]
    exact (woper_74 M E m vk va vw vl vm w h h0).mono fun _ _ hm => hm.eq e
  · cases hmv : m.moves with
    | false =>
      have e : Nd.mk m.op [] [txN m.name, txN m.rdn, trN m.dropOld] = opN m := by unfold opN; simp [h0, hmv]
      exact (woper_else M E m vk va vw vl vm w h _ (by omega) (by simp) (fun w' hf => wpieces_move_false M E m vk va vw vl vm w' (h.no hf) h0 hmv)).mono fun _ _ hm => hm.eq e
    | true =>
      have e : Nd.mk m.op [] ([txN m.name, txN m.rdn, trN m.dropOld] ++ [.mk 128 m.sup []]) = opN m := by unfold opN; simp [h0, hmv]
      exact (woper_else M E m vk va vw vl vm w h _ (by omega) (by simp) (fun w' hf => wpieces_move_true M E m vk va vw vl vm w' (h.no hf) h0 hmv)).mono fun _ _ hm => hm.eq e
  · have e : Nd.mk m.op [] [txN m.name, .mk 48 [] [txN m.type, txN m.value]] = opN m := by unfold opN; simp [h0]
    exact (woper_else M E m vk va vw vl vm w h _ (by omega) (by simp) (fun w' hf => wpieces_compare M E m vk va vw vl vm w' (h.no hf) h0)).mono fun _ _ hm => hm.eq e
  · have e : Nd.mk 80 (intS m.target) [] = opN m := by unfold opN; simp [h0]
    exact (woper_80 M E m vk va vw vl vm w h h0).mono fun _ _ hm => hm.eq e
set_option maxHeartbeats 8000000 in
theorem written_any (M : Nat) (E : Nat → Prop) (m : Msg) (vk va vw vl vm : Value) (w : World) (h : MsgC M E w m vk va vw vl vm) (hr : rightM m = true) (hb : WB m) : Calls Try.prog 13 #[.agg (mcs m vk va vw vl vm).toArray] w (Makes 10 (pieceM m) w) := by
  have H := hid h; have HR := hid hr; have HWB := hid hb
  have e : mcs m vk va vw vl vm = [.int .i64 m.id, .int .i64 m.op, .int .i64 m.ver, .string (sb m.name), .string (sb m.pw), .int .i64 m.scope, .int .i64 m.deref, .int .i64 m.size, .int .i64 m.time, .bool m.typesOnly, .int .i64 m.filter.kind, vk, .string (sb m.filter.type), .string (sb m.filter.value), .string (sb m.filter.first), va, .string (sb m.filter.last), vw, vl, vm, .string (sb m.rdn), .bool m.dropOld, .bool m.moves, .string (sb m.sup), .string (sb m.type), .string (sb m.value), .int .i64 m.target, .int .i64 m.code, .string (sb m.matched), .string (sb m.text)] := rfl
  have HO : Hid (∀ w', Fr No w w' → Calls Try.prog 25 #[.agg (mcs m vk va vw vl vm).toArray] w' (Makes 9 (opN m) w')) := hid (fun w' hf => woper_any M E m vk va vw vl vm w' (h.no hf) hr hb)
  rw [e] at HO
  rw [e]
  have HI := hid (show (Try.prog.info? 29).map (·.size) = some [Value.int .i64 m.id, .int .i64 m.op, .int .i64 m.ver, .string (sb m.name), .string (sb m.pw), .int .i64 m.scope, .int .i64 m.deref, .int .i64 m.size, .int .i64 m.time, .bool m.typesOnly, .int .i64 m.filter.kind, vk, .string (sb m.filter.type), .string (sb m.filter.value), .string (sb m.filter.first), va, .string (sb m.filter.last), vw, vl, vm, .string (sb m.rdn), .bool m.dropOld, .bool m.moves, .string (sb m.sup), .string (sb m.type), .string (sb m.value), .int .i64 m.target, .int .i64 m.code, .string (sb m.matched), .string (sb m.text)].length from infoMsg)
  clear e h hr hb
  obtain ⟨ic, hic, hzc, hsc, hbc⟩ := Go.info_parts infozN
  have IC := hid hic; have ZC := hid hzc; have SC := hid hsc; have BC := hid hbc
  clear hic hzc hsc hbc
  go_enter Try.func13, Try.ntmps13
  go_wp2_with (first
    | ((with_reducible refine K.atO (.box 29 _) ?_); refine wpL_box rfl _ _ rfl _ rfl [.int .i64 m.id, .int .i64 m.op, .int .i64 m.ver, .string (sb m.name), .string (sb m.pw), .int .i64 m.scope, .int .i64 m.deref, .int .i64 m.size, .int .i64 m.time, .bool m.typesOnly, .int .i64 m.filter.kind, vk, .string (sb m.filter.type), .string (sb m.filter.value), .string (sb m.filter.first), va, .string (sb m.filter.last), vw, vl, vm, .string (sb m.rdn), .bool m.dropOld, .bool m.moves, .string (sb m.sup), .string (sb m.type), .string (sb m.value), .int .i64 m.target, .int .i64 m.code, .string (sb m.matched), .string (sb m.text)] rfl ?_; intro w1 HB1 F1 HS1)
    | ((with_reducible refine K.atO (.alloc 44) ?_); refine wpL_alloc rfl _ rfl _ zeroN [.int .i64 0, .string ⟨#[]⟩, .slice none 0 0] rfl ?_; intro w2 HB2 F2 HS2; have HB1' := hid (HB1.out.fr F2.out id); have HF2 := hid (F1.out.trans' F2.out); have c0 : w2.cell? ⟨w.heap.size, 0, none⟩ = some (.int .i64 m.id) := HB1'.out.cell 0)
    | fail)
  have rm : w2.rangeAt w.heap.size 0 [.int .i64 m.id, .int .i64 m.op, .int .i64 m.ver, .string (sb m.name), .string (sb m.pw), .int .i64 m.scope, .int .i64 m.deref, .int .i64 m.size, .int .i64 m.time, .bool m.typesOnly, .int .i64 m.filter.kind, vk, .string (sb m.filter.type), .string (sb m.filter.value), .string (sb m.filter.first), va, .string (sb m.filter.last), vw, vl, vm, .string (sb m.rdn), .bool m.dropOld, .bool m.moves, .string (sb m.sup), .string (sb m.type), .string (sb m.value), .int .i64 m.target, .int .i64 m.code, .string (sb m.matched), .string (sb m.text)] := HB1'.out.range 0 _ rfl
  have hold : Facts.hold [(1, fun w' => w'.cell? ⟨w.heap.size, 0, none⟩ = some (.int .i64 m.id)), (3, fun w' => w'.rangeAt w.heap.size 0 [.int .i64 m.id, .int .i64 m.op, .int .i64 m.ver, .string (sb m.name), .string (sb m.pw), .int .i64 m.scope, .int .i64 m.deref, .int .i64 m.size, .int .i64 m.time, .bool m.typesOnly, .int .i64 m.filter.kind, vk, .string (sb m.filter.type), .string (sb m.filter.value), .string (sb m.filter.first), va, .string (sb m.filter.last), vw, vl, vm, .string (sb m.rdn), .bool m.dropOld, .bool m.moves, .string (sb m.sup), .string (sb m.type), .string (sb m.value), .int .i64 m.target, .int .i64 m.code, .string (sb m.matched), .string (sb m.text)])] w2.drew := Facts.cons_hold c0 (Facts.cons_hold rm (Facts.nil_hold _))
  refine wpD_region hold (by kernel_rfl) 8 rfl ?_
  (refine wpD_plain 0 (v := ?_) rfl (by kernel_rfl) (by kernel_rfl) (by kernel_rfl) (fun _ _ _ h => h) (by rfl) ?_ (by assumption) ?_; rotate_left; (intro _w; go_simp; try with_reducible rfl); simp only [Act.put, K.put3])
  (refine wpD_take 1 _ rfl (by kernel_rfl) (by kernel_rfl) (by kernel_rfl) (fun _ _ _ h => h) List.mem_cons_self (by rfl) (v := ?_) ?_ (by assumption) ?_; rotate_left; (intro _w _hw; go_simp; try with_reducible rfl); simp only [Act.put, K.put3])
  (refine wpD_take 3 _ rfl (by kernel_rfl) (by kernel_rfl) (by kernel_rfl) (fun _ _ _ h => h) (List.mem_cons_of_mem _ List.mem_cons_self) (by rfl) (exec_load _ _ rfl w.heap.size 0 rfl _ _ rfl rfl HI.out) (by assumption) ?_; simp only [Act.put, K.put3])
  clear hold
  refine wpD_only 2 [(3, fun w' => w'.rangeAt w.heap.size 0 [.int .i64 m.id, .int .i64 m.op, .int .i64 m.ver, .string (sb m.name), .string (sb m.pw), .int .i64 m.scope, .int .i64 m.deref, .int .i64 m.size, .int .i64 m.time, .bool m.typesOnly, .int .i64 m.filter.kind, vk, .string (sb m.filter.type), .string (sb m.filter.value), .string (sb m.filter.first), va, .string (sb m.filter.last), vw, vl, vm, .string (sb m.rdn), .bool m.dropOld, .bool m.moves, .string (sb m.sup), .string (sb m.type), .string (sb m.value), .int .i64 m.target, .int .i64 m.code, .string (sb m.matched), .string (sb m.text)])] rfl (by kernel_rfl) (by kernel_rfl) (by rfl) (fun K2 hK2 => ?_)
  refine wp_call _ _ _ rfl 24 [] rfl (fun vs w => by kernel_rfl) [.int .i64 m.id] (by rfl) ?_
  refine (wnumber_any m.id w2.drew H.out.ints.1).mono ?_
  rintro e w1c ⟨rfl, f1⟩
  have hf1 : Fr No w2 w1c := (Fr.refl No w2).drew.trans' f1
  refine ⟨_, rfl, hK2 _ _ (Facts.cons_hold (hf1.range rm id) (Facts.nil_hold _)) ?_⟩
  have k1_3 := hf1.range rm id
  have HF1 := hid (HF2.out.trans' hf1)
  have HG1 := hid hf1
  clear hK2 K2 f1 hf1 rm c0
  simp only [Act.put, K.put3]
  refine wpD_only 4 [] rfl (by kernel_rfl) (by kernel_rfl) (by rfl) (fun K4 hK4 => ?_)
  refine wp_call _ _ _ rfl 25 [] rfl (fun vs w => by kernel_rfl) [.agg #[.int .i64 m.id, .int .i64 m.op, .int .i64 m.ver, .string (sb m.name), .string (sb m.pw), .int .i64 m.scope, .int .i64 m.deref, .int .i64 m.size, .int .i64 m.time, .bool m.typesOnly, .int .i64 m.filter.kind, vk, .string (sb m.filter.type), .string (sb m.filter.value), .string (sb m.filter.first), va, .string (sb m.filter.last), vw, vl, vm, .string (sb m.rdn), .bool m.dropOld, .bool m.moves, .string (sb m.sup), .string (sb m.type), .string (sb m.value), .int .i64 m.target, .int .i64 m.code, .string (sb m.matched), .string (sb m.text)]] (by rfl) ?_
  refine (HO.out w1c HF1.out).mono ?_
  rintro e w2c ⟨ds4, rfl, hnd4, f2⟩
  have hf2 : Fr No w1c w2c := f2
  refine ⟨_, rfl, hK4 _ _ (Facts.nil_hold _) ?_⟩
  have HF2 := hid (HF1.out.trans' hf2)
  have HG2 := hid (HG1.out.trans' hf2)
  obtain ⟨d4_0, d4_1, d4_2, rfl⟩ : ∃ a b c, ds4 = [a, b, c] := by
    have := hnd4.len
    match ds4, this with
    | [a, b, c], _ => exact ⟨a, b, c, rfl⟩
  have HM2_m4 := hid (since_le (N' := w2.heap.size) hnd4 (Nat.le_trans HG1.out.size (Nat.le_refl _)))
  clear hnd4
  clear hK4 K4 f2 hf2 k1_3 HG1 HF1
  simp only [Act.put, K.put3]
  refine wpD_only 5 [] rfl (by kernel_rfl) (by kernel_rfl) (by rfl) (fun K5 hK5 => ?_)
  refine wp_buildRun 42 44 2 [(0, _), (1, _)] rfl [.int .i64 2, .string (sb (intS m.id)), .slice none 0 0, d4_0, d4_1, d4_2] (run_buildAll 42 44 [.agg #[.int .i64 2, .string (sb (intS m.id)), .slice none 0 0], .agg #[d4_0, d4_1, d4_2]] ic _ Try.underlying42 IC.out ZC.out (by rw [SC.out]; decide) (by rw [SC.out]; show 2 * 3 ≤ 16777216; decide) (by show 0 < 2; decide) (by rw [SC.out]; intro u hu; simp at hu; rcases hu with rfl | rfl <;> rfl) _) ?_
  intro w3c HB3 F3 HS3
  have hf3 := F3.out
  refine hK5 _ _ (Facts.nil_hold _) ?_
  have HL3 := hid HG2.out.size
  have HM3_m4 := hid (HM2_m4.out.no hf3)
  have HF3 := hid (HF2.out.trans' hf3)
  have HG3 := hid (HG2.out.trans' hf3)
  have hX3 := HB3
  clear hK5 K5 F3 hf3 HS3 HB3 HM2_m4 HG2 HF2
  simp only [Act.put, K.put3]
  refine wpD_only 6 [] rfl (by kernel_rfl) (by kernel_rfl) (by rfl) (fun K6 hK6 => ?_)
  refine wp_call _ _ _ rfl 23 [] rfl (fun vs w => by kernel_rfl) [.int .i64 48, .slice (some ⟨w2c.heap.size, 0, none⟩) 2 2] (by rfl) ?_
  refine (wof_any 48 (some ⟨w2c.heap.size, 0, none⟩) 2 2 w3c).mono ?_
  rintro e w4c ⟨rfl, f4⟩
  have hf4 : Fr No w3c w4c := f4
  refine ⟨_, rfl, hK6 _ _ (Facts.nil_hold _) ?_⟩
  have HM4_m4 := hid (HM3_m4.out.no hf4)
  have HX4_b3 := hid (hX3.out.fr hf4 id)
  have HF4 := hid (HF3.out.trans' hf4)
  have HG4 := hid (HG3.out.trans' hf4)
  clear hK6 K6 f4 hf4 HM3_m4 hX3 HG3 HF3
  simp only [Act.put, K.put3]
  have HND2 := hid (nd_kids (M := 9) (S := Since w2.heap.size) (t := 48) (kids := [nuN 2 m.id, opN m]) (L := [[.int .i64 2, .string (sb (intS m.id)), .slice none 0 0], [d4_0, d4_1, d4_2]]) ⟨by omega, by omega⟩ HX4_b3.out (by show w2.heap.size ≤ _; exact HL3.out) rfl (by show (2 : Nat) ≤ _; omega) (fun j y c hy hc => by
    match j, hy, hc with
    | 0, hy, hc => cases hy; cases hc; exact leaf_any 8 _ _ 2 (intS m.id) ⟨by omega, by omega⟩ (int_szI m.id)
    | 1, hy, hc => cases hy; cases hc; exact HM4_m4.out
    | j + 2, hy, hc => simp at hc))
  have HWH := hid (HND2.out)
  have HBr := hid (HB2.out.fr HG4.out id)
  refine wpD_only 7 [] rfl (by kernel_rfl) (by kernel_rfl) (by rfl) (fun K7 hK7 => ?_)
  refine wp_storeV _ _ _ rfl w1.heap.size 0 (.agg #[.int .i64 48, .string ⟨#[]⟩, .slice (some ⟨w2c.heap.size, 0, none⟩) 2 2]) [.int .i64 48, .string ⟨#[]⟩, .slice (some ⟨w2c.heap.size, 0, none⟩) 2 2] rfl rfl rfl _ _ HBr.out (by simp) infoN (by intro u hu; simp at hu; rcases hu with rfl | rfl | rfl <;> rfl) ?_
  intro wz HBz Fz HSz
  refine hK7 _ _ (Facts.nil_hold _) ?_
  clear hK7 K7
  simp only [Act.put, K.put3]
  refine wpD_done (by kernel_rfl) ?_ _
  have HFz := hid (HF4.out.trans Fz.out fun k e => .inr (by have e : k = w1.heap.size := e; have := HS1.out; omega))
  have HNz := hid (since_le (N' := w.heap.size) (NdAt.fr Fz.out (fun k hk _ e => by have h : w2.heap.size ≤ k := hk; have e : k = w1.heap.size := e; have := HS2.out; omega) HWH.out) (by have := HS1.out; have := HS2.out; omega))
  go_wp2_with fail
  refine ret_cell rfl _ rfl HBz.out rfl rfl infoN rfl ?_
  exact ⟨_, rfl, nd_le HNz.out (by omega), HFz.out⟩
end Go.Proofs.Ythjmkfpdbbfcpaa.ME

namespace Go.Proofs.Ythjmkfpdbbfcpaa.ME
set_option maxRecDepth 100000
open Go.RowKit K Go.Proofs.Ythjmkfpdbbfcpaa.BE Go.Proofs.Ythjmkfpdbbfcpaa.FR

def okB : Nat → Nd → Prop
  | 0, _ => False
  | d + 1, n => n.body.length ≤ 1048576 ∧ n.kids.length ≤ 4000 ∧ ∀ x ∈ n.kids, okB d x
theorem okB_of : ∀ {d : Nat} {n : Nd}, deep d n = true → shaped d n = true → fits d n = true → okB d n
  | 0, _, h, _, _ => by cases h
  | d + 1, n, h1, h2, h3 => by
    have ho := okF_of h1 h2 h3
    simp only [deep, List.all_eq_true] at h1
    simp only [shaped, Bool.and_eq_true, List.all_eq_true] at h2
    simp only [fits, Bool.and_eq_true, List.all_eq_true, decide_eq_true_eq] at h3
    refine ⟨?_, ho.2.2.1, fun x hx => okB_of (h1 x hx) (h2.2 x hx) (h3.1 x hx)⟩
    have hc := h3.2
    unfold cont at hc
    rw [List.length_append] at hc
    omega
theorem okB.kidN {d : Nat} {n : Nd} (h : okB (d + 1) n) (i : Nat) : (kidN n i).body.length ≤ 1048576 ∧ (kidN n i).kids.length ≤ 4000 ∧ ∀ x ∈ (kidN n i).kids, x.body.length ≤ 1048576 ∧ x.kids.length ≤ 4000 ∧ ∀ y ∈ x.kids, y.body.length ≤ 1048576 ∧ y.kids.length ≤ 4000 := by
  by_cases hi : i < n.kids.length
  · have e : ME.kidN n i = n.kids[i] := by unfold ME.kidN; rw [List.getD_eq_getElem?_getD, List.getElem?_eq_getElem hi]; rfl
    rw [e]
    have h1 := h.2.2 _ (List.getElem_mem hi)
    match d, h1 with
    | d + 1, h1 =>
      refine ⟨h1.1, h1.2.1, fun x hx => ?_⟩
      match d, h1.2.2 x hx with
      | d + 1, h2 =>
        refine ⟨h2.1, h2.2.1, fun y hy => ?_⟩
        match d, h2.2.2 y hy with
        | d + 1, h3 => exact ⟨h3.1, h3.2.1⟩
  · have e : ME.kidN n i = nd0 := by unfold ME.kidN; rw [List.getD_eq_getElem?_getD, List.getElem?_eq_none (by omega)]; rfl
    rw [e]
    exact ⟨by show (0 : Nat) ≤ _; omega, by show (0 : Nat) ≤ _; omega, (fun x hx => by cases hx)⟩
theorem okB.kidK {d : Nat} {n : Nd} (h : okB (d + 2) n) (i : Nat) : okB (d + 1) (ME.kidN n i) := by
  by_cases hi : i < n.kids.length
  · have e : ME.kidN n i = n.kids[i] := by unfold ME.kidN; rw [List.getD_eq_getElem?_getD, List.getElem?_eq_getElem hi]; rfl
    rw [e]
    exact h.2.2 _ (List.getElem_mem hi)
  · have e : ME.kidN n i = nd0 := by unfold ME.kidN; rw [List.getD_eq_getElem?_getD, List.getElem?_eq_none (by omega)]; rfl
    rw [e]
    exact ⟨by show (0 : Nat) ≤ _; omega, by show (0 : Nat) ≤ _; omega, (fun x hx => by cases hx)⟩
theorem partsR_le (k : Nat) : ∀ (l : List Nd) (x : B × List B × B), (∀ n ∈ l, n.body.length ≤ k) → x.1.length ≤ k ∧ x.2.2.length ≤ k ∧ (∀ a ∈ x.2.1, a.length ≤ k) →
    (l.foldl partR x).1.length ≤ k ∧ (l.foldl partR x).2.2.length ≤ k ∧ (∀ a ∈ (l.foldl partR x).2.1, a.length ≤ k) ∧ (l.foldl partR x).2.1.length ≤ x.2.1.length + l.length
  | [], x, _, h => ⟨h.1, h.2.1, h.2.2, by simp⟩
  | n :: r, x, hl, h => by
    have hn := hl n (by simp)
    have hr : ∀ m ∈ r, m.body.length ≤ k := fun m hm => hl m (by simp [hm])
    rw [List.foldl_cons]
    by_cases h1 : n.tag = 128
    · have e : partR x n = (n.body, x.2.1, x.2.2) := by unfold partR; rw [if_pos h1]
      rw [e]
      have := partsR_le k r (n.body, x.2.1, x.2.2) hr ⟨hn, h.2.1, h.2.2⟩
      refine ⟨this.1, this.2.1, this.2.2.1, ?_⟩
      have h4 := this.2.2.2
      simp only [List.length_cons] at h4 ⊢
      omega
    by_cases h2 : n.tag = 129
    · have e : partR x n = (x.1, x.2.1 ++ [n.body], x.2.2) := by unfold partR; rw [if_neg h1, if_pos h2]
      rw [e]
      have := partsR_le k r (x.1, x.2.1 ++ [n.body], x.2.2) hr ⟨h.1, h.2.1, fun a ha => by
        rcases List.mem_append.1 ha with ha | ha
        · exact h.2.2 a ha
        · obtain rfl : a = n.body := by simpa using ha
          exact hn⟩
      refine ⟨this.1, this.2.1, this.2.2.1, ?_⟩
      have h4 := this.2.2.2
      simp only [List.length_append, List.length_cons, List.length_nil] at h4 ⊢
      omega
    by_cases h3 : n.tag = 130
    · have e : partR x n = (x.1, x.2.1, n.body) := by unfold partR; rw [if_neg h1, if_neg h2, if_pos h3]
      rw [e]
      have := partsR_le k r (x.1, x.2.1, n.body) hr ⟨h.1, hn, h.2.2⟩
      refine ⟨this.1, this.2.1, this.2.2.1, ?_⟩
      have h4 := this.2.2.2
      simp only [List.length_cons] at h4 ⊢
      omega
    · have e : partR x n = x := by unfold partR; rw [if_neg h1, if_neg h2, if_neg h3]
      rw [e]
      have := partsR_le k r x hr h
      refine ⟨this.1, this.2.1, this.2.2.1, ?_⟩
      have h4 := this.2.2.2
      simp only [List.length_cons] at h4 ⊢
      omega
theorem flb_nil (d : Nat) (k : Int) : FlB 1048576 d (.mk k [] [] [] [] [] []) := by
  cases d with
  | zero => trivial
  | succ d => exact ⟨Nat.zero_le _, Nat.zero_le _, Nat.zero_le _, Nat.zero_le _, Nat.zero_le _, (fun a ha => by cases ha), Nat.zero_le _, (fun x hx => by cases hx)⟩
theorem flb_read : ∀ (d d' : Nat) (n : Nd), okB d n → FlB 1048576 d' (filterR d n)
  | 0, d', n, h => h.elim
  | d + 1, 0, n, h => trivial
  | d + 1, d' + 1, n, h => by
    unfold filterR
    by_cases h1 : kidsK (n.tag % 32) = true
    · rw [if_pos h1]
      refine ⟨Nat.zero_le _, Nat.zero_le _, Nat.zero_le _, Nat.zero_le _, Nat.zero_le _, (fun a ha => by cases ha), ?_, fun x hx => ?_⟩
      · show (n.kids.map (filterR d)).length ≤ _
        rw [List.length_map]
        have := h.2.1
        omega
      · obtain ⟨y, hy, rfl⟩ := List.mem_map.1 hx
        exact flb_read d d' y (h.2.2 y hy)
    rw [if_neg h1]
    by_cases h2 : valK (n.tag % 32) = true
    · rw [if_pos h2]
      exact ⟨(h.kidN 0).1, (h.kidN 1).1, Nat.zero_le _, Nat.zero_le _, Nat.zero_le _, (fun a ha => by cases ha), Nat.zero_le _, (fun x hx => by cases hx)⟩
    rw [if_neg h2]
    by_cases h3 : n.tag % 32 = 4
    · rw [if_pos h3]
      have hp := partsR_le 1048576 (kidN n 1).kids ([], [], []) (fun m hm => ((h.kidN 1).2.2 m hm).1) ⟨Nat.zero_le _, Nat.zero_le _, (fun a ha => by cases ha)⟩
      refine ⟨(h.kidN 0).1, Nat.zero_le _, hp.1, hp.2.1, ?_, hp.2.2.1, Nat.zero_le _, (fun x hx => by cases hx)⟩
      have h4 := hp.2.2.2
      have h5 := (h.kidN 1).2.1
      show (partsR (kidN n 1).kids).2.1.length ≤ _
      unfold partsR
      simp only [List.length_nil] at h4
      omega
    rw [if_neg h3]
    by_cases h4 : n.tag % 32 = 7
    · rw [if_pos h4]
      exact ⟨h.1, Nat.zero_le _, Nat.zero_le _, Nat.zero_le _, Nat.zero_le _, (fun a ha => by cases ha), Nat.zero_le _, (fun x hx => by cases hx)⟩
    · rw [if_neg h4]
      exact flb_nil (d' + 1) _
theorem wb0 (id op : Int) : WB (msg0 id op) := ⟨flb_nil 6 0, Nat.zero_le _, ⟨Nat.zero_le _, (fun x hx => by cases hx)⟩, ⟨Nat.zero_le _, (fun x hx => by cases hx)⟩⟩
theorem wb_read {n : Nd} (h : okB 8 n) : WB (readM n) := by
  have h7 := h.kidK (d := 6) 1
  have hl : ∀ x ∈ (kidN (kidN n 1) 1).kids, (atOf x).values.length ≤ 1048576 ∧ (moOf x).attr.values.length ≤ 1048576 := fun x hx => by
    have hk := h7.kidK (d := 5) 1
    have hx5 : okB 5 x := hk.2.2 x hx
    refine ⟨?_, ?_⟩
    · show ((kidN x 1).kids.map Nd.body).length ≤ _
      rw [List.length_map]
      have := (hx5.kidN 1).2.1
      omega
    · show ((kidN (kidN x 1) 1).kids.map Nd.body).length ≤ _
      rw [List.length_map]
      have := ((hx5.kidK (d := 3) 1).kidN 1).2.1
      omega
  have hn := (h7.kidN 1).2.1
  have w0 := fun op => wb0 (valN (kidN n 0)) op
  unfold readM readO
  by_cases c1 : (kidN n 1).tag = 96
  · rw [if_pos c1]; exact ⟨(w0 96).f, (w0 96).w, (w0 96).l, (w0 96).d⟩
  rw [if_neg c1]
  by_cases c2 : (kidN n 1).tag = 99
  · rw [if_pos c2]
    refine ⟨flb_read 6 6 _ (h7.kidK (d := 5) 6), ?_, (w0 99).l, (w0 99).d⟩
    show ((kidN (kidN n 1) 7).kids.map Nd.body).length ≤ _
    rw [List.length_map]
    have := (h7.kidN 7).2.1
    omega
  rw [if_neg c2]
  by_cases c3 : (kidN n 1).tag = 102
  · rw [if_pos c3]
    refine ⟨(w0 102).f, (w0 102).w, (w0 102).l, ?_, fun x hx => ?_⟩
    · show ((kidN (kidN n 1) 1).kids.map moOf).length ≤ _
      rw [List.length_map]; omega
    · obtain ⟨y, hy, rfl⟩ := List.mem_map.1 hx
      exact (hl y hy).2
  rw [if_neg c3]
  by_cases c4 : (kidN n 1).tag = 104 ∨ (kidN n 1).tag = 100
  · rw [if_pos c4]
    refine ⟨(w0 0).f, (w0 0).w, ⟨?_, fun x hx => ?_⟩, (w0 0).d⟩
    · show ((kidN (kidN n 1) 1).kids.map atOf).length ≤ _
      rw [List.length_map]; omega
    · obtain ⟨y, hy, rfl⟩ := List.mem_map.1 hx
      exact (hl y hy).1
  rw [if_neg c4]
  by_cases c5 : (kidN n 1).tag = 74
  · rw [if_pos c5]; exact ⟨(w0 0).f, (w0 0).w, (w0 0).l, (w0 0).d⟩
  rw [if_neg c5]
  by_cases c6 : (kidN n 1).tag = 108
  · rw [if_pos c6]; exact ⟨(w0 0).f, (w0 0).w, (w0 0).l, (w0 0).d⟩
  rw [if_neg c6]
  by_cases c7 : (kidN n 1).tag = 110
  · rw [if_pos c7]; exact ⟨(w0 0).f, (w0 0).w, (w0 0).l, (w0 0).d⟩
  rw [if_neg c7]
  by_cases c8 : (kidN n 1).tag = 80
  · rw [if_pos c8]; exact ⟨(w0 0).f, (w0 0).w, (w0 0).l, (w0 0).d⟩
  rw [if_neg c8]
  by_cases c9 : ansO (kidN n 1).tag = true
  · rw [if_pos c9]; exact ⟨(w0 0).f, (w0 0).w, (w0 0).l, (w0 0).d⟩
  · rw [if_neg c9]; exact w0 _
end Go.Proofs.Ythjmkfpdbbfcpaa.ME
