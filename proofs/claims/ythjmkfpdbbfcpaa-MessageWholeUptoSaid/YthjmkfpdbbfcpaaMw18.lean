/-
  Part 18 of the proof: MpR.
-/
import Derived.Test.YthjmkfpdbbfcpaaMw17
set_option linter.unusedSimpArgs false
set_option linter.unusedVariables false
namespace Go.Proofs.Ythjmkfpdbbfcpaa.ME
set_option maxRecDepth 100000
open Go.RowKit K Go.Proofs.Ythjmkfpdbbfcpaa.BE Go.Proofs.Ythjmkfpdbbfcpaa.FR

theorem KR.le {m m' base : Nat} {acc : List Nd} {v : Value} {L : List (List Value)} {w : World} (h : KR m base acc v L w) (hm : m ≤ m') : KR m' base acc v L w := ⟨h.r, h.l, fun j x c hx hc => nd_le (h.k j x c hx hc) hm⟩
theorem RowR.le {m m' : Nat} {acc : List Nd} {w : World} {e : Ending} {w' : World} (h : RowR m acc w e w') (hm : m ≤ m') : RowR m' acc w e w' := by
  obtain ⟨v, L, b, h1, h2, h3, h4⟩ := h
  exact ⟨v, L, b, h1, h2, h3.le hm, h4⟩
set_option maxHeartbeats 8000000 in
theorem wresponse_any (M : Nat) (E : Nat → Prop) (m : Msg) (vk va vw vl vm : Value) (w : World) (h : MsgC M E w m vk va vw vl vm) (hop : ¬ m.op = 120) : Calls Try.prog 80 #[.agg (mcs m vk va vw vl vm).toArray] w (RowR 1 ([nuN 10 m.code, txN m.matched, txN m.text]) w) := by
  have H := hid h
  clear h
  have HOP := hid hop
  have e : mcs m vk va vw vl vm = [.int .i64 m.id, .int .i64 m.op, .int .i64 m.ver, .string (sb m.name), .string (sb m.pw), .int .i64 m.scope, .int .i64 m.deref, .int .i64 m.size, .int .i64 m.time, .bool m.typesOnly, .int .i64 m.filter.kind, vk, .string (sb m.filter.type), .string (sb m.filter.value), .string (sb m.filter.first), va, .string (sb m.filter.last), vw, vl, vm, .string (sb m.rdn), .bool m.dropOld, .bool m.moves, .string (sb m.sup), .string (sb m.type), .string (sb m.value), .int .i64 m.target, .int .i64 m.code, .string (sb m.matched), .string (sb m.text)] := by unfold mcs; rfl
  rw [e]
  clear e hop
  obtain ⟨ic, hic, hzc, hsc, hbc⟩ := Go.info_parts infozN
  have IC := hid hic; have ZC := hid hzc; have SC := hid hsc; have BC := hid hbc
  clear hic hzc hsc hbc
  have hop : ¬ m.op = 120 := HOP.out
  go_enter Try.func80, Try.ntmps80
  go_wp2_with (first
    | ((with_reducible refine K.atO (.box 29 _) ?_); refine wpL_box rfl _ _ rfl _ rfl [.int .i64 m.id, .int .i64 m.op, .int .i64 m.ver, .string (sb m.name), .string (sb m.pw), .int .i64 m.scope, .int .i64 m.deref, .int .i64 m.size, .int .i64 m.time, .bool m.typesOnly, .int .i64 m.filter.kind, vk, .string (sb m.filter.type), .string (sb m.filter.value), .string (sb m.filter.first), va, .string (sb m.filter.last), vw, vl, vm, .string (sb m.rdn), .bool m.dropOld, .bool m.moves, .string (sb m.sup), .string (sb m.type), .string (sb m.value), .int .i64 m.target, .int .i64 m.code, .string (sb m.matched), .string (sb m.text)] rfl ?_; intro w1 HB1 F1 HS1)
    | fail)
  have HF1 := hid F1.out
  have k0 : w1.cell? ⟨w.heap.size, 27, none⟩ = some (.int .i64 m.code) := HB1.out.cell 27
  have k1 : w1.cell? ⟨w.heap.size, 28, none⟩ = some (.string (sb m.matched)) := HB1.out.cell 28
  have k2 : w1.cell? ⟨w.heap.size, 29, none⟩ = some (.string (sb m.text)) := HB1.out.cell 29
  have hold : Facts.hold [(1, fun w' => w'.cell? ⟨w.heap.size, 27, none⟩ = some (.int .i64 m.code)), (4, fun w' => w'.cell? ⟨w.heap.size, 28, none⟩ = some (.string (sb m.matched))), (7, fun w' => w'.cell? ⟨w.heap.size, 29, none⟩ = some (.string (sb m.text)))] w1.drew := Facts.cons_hold k0 (Facts.cons_hold k1 (Facts.cons_hold k2 (Facts.nil_hold _)))
  refine wpD_region hold (by kernel_rfl) 11 rfl ?_
  (refine wpD_plain 0 (v := ?_) rfl (by kernel_rfl) (by kernel_rfl) (by kernel_rfl) (fun _ _ _ h => h) (by rfl) ?_ (by assumption) ?_; rotate_left; (intro _w; go_simp; try with_reducible rfl); simp only [Act.put, K.put3])
  (refine wpD_take 1 _ rfl (by kernel_rfl) (by kernel_rfl) (by kernel_rfl) (fun _ _ _ h => h) List.mem_cons_self (by rfl) (v := ?_) ?_ (by assumption) ?_; rotate_left; (intro _w _hw; go_simp; try with_reducible rfl); simp only [Act.put, K.put3])
  (refine wpD_plain 3 (v := ?_) rfl (by kernel_rfl) (by kernel_rfl) (by kernel_rfl) (fun _ _ _ h => h) (by rfl) ?_ (by assumption) ?_; rotate_left; (intro _w; go_simp; try with_reducible rfl); simp only [Act.put, K.put3])
  (refine wpD_take 4 _ rfl (by kernel_rfl) (by kernel_rfl) (by kernel_rfl) (fun _ _ _ h => h) (List.mem_cons_of_mem _ List.mem_cons_self) (by rfl) (v := ?_) ?_ (by assumption) ?_; rotate_left; (intro _w _hw; go_simp; try with_reducible rfl); simp only [Act.put, K.put3])
  (refine wpD_plain 6 (v := ?_) rfl (by kernel_rfl) (by kernel_rfl) (by kernel_rfl) (fun _ _ _ h => h) (by rfl) ?_ (by assumption) ?_; rotate_left; (intro _w; go_simp; try with_reducible rfl); simp only [Act.put, K.put3])
  (refine wpD_take 7 _ rfl (by kernel_rfl) (by kernel_rfl) (by kernel_rfl) (fun _ _ _ h => h) (List.mem_cons_of_mem _ (List.mem_cons_of_mem _ List.mem_cons_self)) (by rfl) (v := ?_) ?_ (by assumption) ?_; rotate_left; (intro _w _hw; go_simp; try with_reducible rfl); simp only [Act.put, K.put3])
  clear hold
  refine wpD_only 2 [(4, fun w' => w'.cell? ⟨w.heap.size, 28, none⟩ = some (.string (sb m.matched))), (7, fun w' => w'.cell? ⟨w.heap.size, 29, none⟩ = some (.string (sb m.text)))] rfl (by kernel_rfl) (by kernel_rfl) (by rfl) (fun K2 hK2 => ?_)
  refine wp_call _ _ _ rfl 72 [] rfl (fun vs w => by kernel_rfl) [.int .i64 m.code] (by rfl) ?_
  refine (wchoice_any m.code w1.drew H.out.ints.2.2.2.2.2.2.2.2).mono ?_
  rintro e w1c ⟨rfl, f1⟩
  have hf1 : Fr No w1 w1c := (Fr.refl No w1).drew.trans' f1
  refine ⟨_, rfl, hK2 _ _ (Facts.cons_hold (hf1.cell k1 id) (Facts.cons_hold (hf1.cell k2 id) (Facts.nil_hold _))) ?_⟩
  have k1_4 := hf1.cell k1 id
  have k1_7 := hf1.cell k2 id
  have HF1 := hid (HF1.out.trans' hf1)
  have HG1 := hid hf1
  clear hK2 K2 f1 hf1 k1 k2 k0
  simp only [Act.put, K.put3]
  refine wpD_only 5 [(7, fun w' => w'.cell? ⟨w.heap.size, 29, none⟩ = some (.string (sb m.text)))] rfl (by kernel_rfl) (by kernel_rfl) (by rfl) (fun K5 hK5 => ?_)
  refine wp_call _ _ _ rfl 71 [] rfl (fun vs w => by kernel_rfl) [.string (sb m.matched)] (by rfl) ?_
  refine (wtext_any (sb m.matched) w1c).mono ?_
  rintro e w2c ⟨rfl, f2⟩
  have hf2 : Fr No w1c w2c := f2
  refine ⟨_, rfl, hK5 _ _ (Facts.cons_hold (hf2.cell k1_7 id) (Facts.nil_hold _)) ?_⟩
  have k2_7 := hf2.cell k1_7 id
  have HF2 := hid (HF1.out.trans' hf2)
  have HG2 := hid (HG1.out.trans' hf2)
  clear hK5 K5 f2 hf2 k1_7 k1_4 HG1 HF1
  simp only [Act.put, K.put3]
  refine wpD_only 8 [] rfl (by kernel_rfl) (by kernel_rfl) (by rfl) (fun K8 hK8 => ?_)
  refine wp_call _ _ _ rfl 71 [] rfl (fun vs w => by kernel_rfl) [.string (sb m.text)] (by rfl) ?_
  refine (wtext_any (sb m.text) w2c).mono ?_
  rintro e w3c ⟨rfl, f3⟩
  have hf3 : Fr No w2c w3c := f3
  refine ⟨_, rfl, hK8 _ _ (Facts.nil_hold _) ?_⟩
  have HF3 := hid (HF2.out.trans' hf3)
  have HG3 := hid (HG2.out.trans' hf3)
  clear hK8 K8 f3 hf3 k2_7 HG2 HF2
  simp only [Act.put, K.put3]
  refine wpD_only 9 [] rfl (by kernel_rfl) (by kernel_rfl) (by rfl) (fun K9 hK9 => ?_)
  refine wp_buildRun 42 44 3 [(0, _), (1, _), (2, _)] rfl [.int .i64 10, .string (sb (intS m.code)), .slice none 0 0, .int .i64 4, .string (sb m.matched), .slice none 0 0, .int .i64 4, .string (sb m.text), .slice none 0 0] (run_buildAll 42 44 [.agg #[.int .i64 10, .string (sb (intS m.code)), .slice none 0 0], .agg #[.int .i64 4, .string (sb m.matched), .slice none 0 0], .agg #[.int .i64 4, .string (sb m.text), .slice none 0 0]] ic _ Try.underlying42 IC.out ZC.out (by rw [SC.out]; decide) (by rw [SC.out]; show 3 * 3 ≤ 16777216; decide) (by show 0 < 3; decide) (by rw [SC.out]; intro u hu; simp at hu; rcases hu with rfl | rfl | rfl <;> rfl) _) ?_
  intro w4c HB4 F4 HS4
  have hf4 := F4.out
  refine hK9 _ _ (Facts.nil_hold _) ?_
  have HL4 := hid HG3.out.size
  have HF4 := hid (HF3.out.trans' hf4)
  have HG4 := hid (HG3.out.trans' hf4)
  have hX4 := HB4
  clear hK9 K9 F4 hf4 HS4 HB4 HG3 HF3
  simp only [Act.put, K.put3]
  have HROW := hid (KR.new (m := 1) (base := w1.heap.size) (acc := [nuN 10 m.code, txN m.matched, txN m.text]) (L := [[.int .i64 10, .string (sb (intS m.code)), .slice none 0 0], [.int .i64 4, .string (sb m.matched), .slice none 0 0], [.int .i64 4, .string (sb m.text), .slice none 0 0]]) (N := 0) hX4.out HL4.out rfl (by intro c hc; simp at hc; rcases hc with rfl | rfl | rfl <;> rfl) (by show 3 ≤ maxLen; unfold maxLen; omega) (fun j y c hy hc => by
    match j, hy, hc with
    | 0, hy, hc => cases hy; cases hc; exact leaf_any 0 _ _ 10 (intS m.code) ⟨by omega, by omega⟩ (int_szI m.code)
    | 1, hy, hc => cases hy; cases hc; exact leaf_any 0 _ _ 4 m.matched ⟨by omega, by omega⟩ H.out.texts.2.2.2.2.2.2.1
    | 2, hy, hc => cases hy; cases hc; exact leaf_any 0 _ _ 4 m.text ⟨by omega, by omega⟩ H.out.texts.2.2.2.2.2.2.2
    | j + 3, hy, hc => simp at hc))
  have hold : Facts.hold [] w4c := Facts.nil_hold _
  (refine wpD_plain 10 (v := ?_) rfl (by kernel_rfl) (by kernel_rfl) (by kernel_rfl) (fun _ _ _ h => h) (by rfl) ?_ (by assumption) ?_; rotate_left; (intro _w; go_simp; try with_reducible rfl); simp only [Act.put, K.put3])
  clear hold
  refine wpD_done (by kernel_rfl) ?_ _
  have HGS : Hid (w1.heap.size ≤ w4c.heap.size) := hid HG4.out.size
  have HLB : Hid (w.heap.size ≤ w1.heap.size) := hid F1.out.size
  have HB1' := hid (HB1.out.fr HG4.out id)
  have c1 : w4c.cell? ⟨w.heap.size, 1, none⟩ = some (.int .i64 m.op) := HB1'.out.cell 1
  have c3 : w4c.cell? ⟨w.heap.size, 3, none⟩ = some (.string (sb m.name)) := HB1'.out.cell 3
  go_wp2_with fail
  go_ret
  exact ⟨_, _, w1.heap.size, rfl, HLB.out, HROW.out, HF4.out⟩
set_option maxHeartbeats 8000000 in
theorem wresponse_120 (M : Nat) (E : Nat → Prop) (m : Msg) (vk va vw vl vm : Value) (w : World) (h : MsgC M E w m vk va vw vl vm) (hop : m.op = 120) : Calls Try.prog 80 #[.agg (mcs m vk va vw vl vm).toArray] w (RowR 1 ([nuN 10 m.code, txN m.matched, txN m.text] ++ [.mk 138 m.name []]) w) := by
  have H := hid h
  clear h
  have e : mcs m vk va vw vl vm = [.int .i64 m.id, .int .i64 120, .int .i64 m.ver, .string (sb m.name), .string (sb m.pw), .int .i64 m.scope, .int .i64 m.deref, .int .i64 m.size, .int .i64 m.time, .bool m.typesOnly, .int .i64 m.filter.kind, vk, .string (sb m.filter.type), .string (sb m.filter.value), .string (sb m.filter.first), va, .string (sb m.filter.last), vw, vl, vm, .string (sb m.rdn), .bool m.dropOld, .bool m.moves, .string (sb m.sup), .string (sb m.type), .string (sb m.value), .int .i64 m.target, .int .i64 m.code, .string (sb m.matched), .string (sb m.text)] := by unfold mcs; rw [hop]
  rw [e]
  clear e hop
  obtain ⟨ic, hic, hzc, hsc, hbc⟩ := Go.info_parts infozN
  have IC := hid hic; have ZC := hid hzc; have SC := hid hsc; have BC := hid hbc
  clear hic hzc hsc hbc
  go_enter Try.func80, Try.ntmps80
  go_wp2_with (first
    | ((with_reducible refine K.atO (.box 29 _) ?_); refine wpL_box rfl _ _ rfl _ rfl [.int .i64 m.id, .int .i64 120, .int .i64 m.ver, .string (sb m.name), .string (sb m.pw), .int .i64 m.scope, .int .i64 m.deref, .int .i64 m.size, .int .i64 m.time, .bool m.typesOnly, .int .i64 m.filter.kind, vk, .string (sb m.filter.type), .string (sb m.filter.value), .string (sb m.filter.first), va, .string (sb m.filter.last), vw, vl, vm, .string (sb m.rdn), .bool m.dropOld, .bool m.moves, .string (sb m.sup), .string (sb m.type), .string (sb m.value), .int .i64 m.target, .int .i64 m.code, .string (sb m.matched), .string (sb m.text)] rfl ?_; intro w1 HB1 F1 HS1)
    | fail)
  have HF1 := hid F1.out
  have k0 : w1.cell? ⟨w.heap.size, 27, none⟩ = some (.int .i64 m.code) := HB1.out.cell 27
  have k1 : w1.cell? ⟨w.heap.size, 28, none⟩ = some (.string (sb m.matched)) := HB1.out.cell 28
  have k2 : w1.cell? ⟨w.heap.size, 29, none⟩ = some (.string (sb m.text)) := HB1.out.cell 29
  have hold : Facts.hold [(1, fun w' => w'.cell? ⟨w.heap.size, 27, none⟩ = some (.int .i64 m.code)), (4, fun w' => w'.cell? ⟨w.heap.size, 28, none⟩ = some (.string (sb m.matched))), (7, fun w' => w'.cell? ⟨w.heap.size, 29, none⟩ = some (.string (sb m.text)))] w1.drew := Facts.cons_hold k0 (Facts.cons_hold k1 (Facts.cons_hold k2 (Facts.nil_hold _)))
  refine wpD_region hold (by kernel_rfl) 11 rfl ?_
  (refine wpD_plain 0 (v := ?_) rfl (by kernel_rfl) (by kernel_rfl) (by kernel_rfl) (fun _ _ _ h => h) (by rfl) ?_ (by assumption) ?_; rotate_left; (intro _w; go_simp; try with_reducible rfl); simp only [Act.put, K.put3])
  (refine wpD_take 1 _ rfl (by kernel_rfl) (by kernel_rfl) (by kernel_rfl) (fun _ _ _ h => h) List.mem_cons_self (by rfl) (v := ?_) ?_ (by assumption) ?_; rotate_left; (intro _w _hw; go_simp; try with_reducible rfl); simp only [Act.put, K.put3])
  (refine wpD_plain 3 (v := ?_) rfl (by kernel_rfl) (by kernel_rfl) (by kernel_rfl) (fun _ _ _ h => h) (by rfl) ?_ (by assumption) ?_; rotate_left; (intro _w; go_simp; try with_reducible rfl); simp only [Act.put, K.put3])
  (refine wpD_take 4 _ rfl (by kernel_rfl) (by kernel_rfl) (by kernel_rfl) (fun _ _ _ h => h) (List.mem_cons_of_mem _ List.mem_cons_self) (by rfl) (v := ?_) ?_ (by assumption) ?_; rotate_left; (intro _w _hw; go_simp; try with_reducible rfl); simp only [Act.put, K.put3])
  (refine wpD_plain 6 (v := ?_) rfl (by kernel_rfl) (by kernel_rfl) (by kernel_rfl) (fun _ _ _ h => h) (by rfl) ?_ (by assumption) ?_; rotate_left; (intro _w; go_simp; try with_reducible rfl); simp only [Act.put, K.put3])
  (refine wpD_take 7 _ rfl (by kernel_rfl) (by kernel_rfl) (by kernel_rfl) (fun _ _ _ h => h) (List.mem_cons_of_mem _ (List.mem_cons_of_mem _ List.mem_cons_self)) (by rfl) (v := ?_) ?_ (by assumption) ?_; rotate_left; (intro _w _hw; go_simp; try with_reducible rfl); simp only [Act.put, K.put3])
  clear hold
  refine wpD_only 2 [(4, fun w' => w'.cell? ⟨w.heap.size, 28, none⟩ = some (.string (sb m.matched))), (7, fun w' => w'.cell? ⟨w.heap.size, 29, none⟩ = some (.string (sb m.text)))] rfl (by kernel_rfl) (by kernel_rfl) (by rfl) (fun K2 hK2 => ?_)
  refine wp_call _ _ _ rfl 72 [] rfl (fun vs w => by kernel_rfl) [.int .i64 m.code] (by rfl) ?_
  refine (wchoice_any m.code w1.drew H.out.ints.2.2.2.2.2.2.2.2).mono ?_
  rintro e w1c ⟨rfl, f1⟩
  have hf1 : Fr No w1 w1c := (Fr.refl No w1).drew.trans' f1
  refine ⟨_, rfl, hK2 _ _ (Facts.cons_hold (hf1.cell k1 id) (Facts.cons_hold (hf1.cell k2 id) (Facts.nil_hold _))) ?_⟩
  have k1_4 := hf1.cell k1 id
  have k1_7 := hf1.cell k2 id
  have HF1 := hid (HF1.out.trans' hf1)
  have HG1 := hid hf1
  clear hK2 K2 f1 hf1 k1 k2 k0
  simp only [Act.put, K.put3]
  refine wpD_only 5 [(7, fun w' => w'.cell? ⟨w.heap.size, 29, none⟩ = some (.string (sb m.text)))] rfl (by kernel_rfl) (by kernel_rfl) (by rfl) (fun K5 hK5 => ?_)
  refine wp_call _ _ _ rfl 71 [] rfl (fun vs w => by kernel_rfl) [.string (sb m.matched)] (by rfl) ?_
  refine (wtext_any (sb m.matched) w1c).mono ?_
  rintro e w2c ⟨rfl, f2⟩
  have hf2 : Fr No w1c w2c := f2
  refine ⟨_, rfl, hK5 _ _ (Facts.cons_hold (hf2.cell k1_7 id) (Facts.nil_hold _)) ?_⟩
  have k2_7 := hf2.cell k1_7 id
  have HF2 := hid (HF1.out.trans' hf2)
  have HG2 := hid (HG1.out.trans' hf2)
  clear hK5 K5 f2 hf2 k1_7 k1_4 HG1 HF1
  simp only [Act.put, K.put3]
  refine wpD_only 8 [] rfl (by kernel_rfl) (by kernel_rfl) (by rfl) (fun K8 hK8 => ?_)
  refine wp_call _ _ _ rfl 71 [] rfl (fun vs w => by kernel_rfl) [.string (sb m.text)] (by rfl) ?_
  refine (wtext_any (sb m.text) w2c).mono ?_
  rintro e w3c ⟨rfl, f3⟩
  have hf3 : Fr No w2c w3c := f3
  refine ⟨_, rfl, hK8 _ _ (Facts.nil_hold _) ?_⟩
  have HF3 := hid (HF2.out.trans' hf3)
  have HG3 := hid (HG2.out.trans' hf3)
  clear hK8 K8 f3 hf3 k2_7 HG2 HF2
  simp only [Act.put, K.put3]
  refine wpD_only 9 [] rfl (by kernel_rfl) (by kernel_rfl) (by rfl) (fun K9 hK9 => ?_)
  refine wp_buildRun 42 44 3 [(0, _), (1, _), (2, _)] rfl [.int .i64 10, .string (sb (intS m.code)), .slice none 0 0, .int .i64 4, .string (sb m.matched), .slice none 0 0, .int .i64 4, .string (sb m.text), .slice none 0 0] (run_buildAll 42 44 [.agg #[.int .i64 10, .string (sb (intS m.code)), .slice none 0 0], .agg #[.int .i64 4, .string (sb m.matched), .slice none 0 0], .agg #[.int .i64 4, .string (sb m.text), .slice none 0 0]] ic _ Try.underlying42 IC.out ZC.out (by rw [SC.out]; decide) (by rw [SC.out]; show 3 * 3 ≤ 16777216; decide) (by show 0 < 3; decide) (by rw [SC.out]; intro u hu; simp at hu; rcases hu with rfl | rfl | rfl <;> rfl) _) ?_
  intro w4c HB4 F4 HS4
  have hf4 := F4.out
  refine hK9 _ _ (Facts.nil_hold _) ?_
  have HL4 := hid HG3.out.size
  have HF4 := hid (HF3.out.trans' hf4)
  have HG4 := hid (HG3.out.trans' hf4)
  have hX4 := HB4
  clear hK9 K9 F4 hf4 HS4 HB4 HG3 HF3
  simp only [Act.put, K.put3]
  have HROW := hid (KR.new (m := 1) (base := w1.heap.size) (acc := [nuN 10 m.code, txN m.matched, txN m.text]) (L := [[.int .i64 10, .string (sb (intS m.code)), .slice none 0 0], [.int .i64 4, .string (sb m.matched), .slice none 0 0], [.int .i64 4, .string (sb m.text), .slice none 0 0]]) (N := 0) hX4.out HL4.out rfl (by intro c hc; simp at hc; rcases hc with rfl | rfl | rfl <;> rfl) (by show 3 ≤ maxLen; unfold maxLen; omega) (fun j y c hy hc => by
    match j, hy, hc with
    | 0, hy, hc => cases hy; cases hc; exact leaf_any 0 _ _ 10 (intS m.code) ⟨by omega, by omega⟩ (int_szI m.code)
    | 1, hy, hc => cases hy; cases hc; exact leaf_any 0 _ _ 4 m.matched ⟨by omega, by omega⟩ H.out.texts.2.2.2.2.2.2.1
    | 2, hy, hc => cases hy; cases hc; exact leaf_any 0 _ _ 4 m.text ⟨by omega, by omega⟩ H.out.texts.2.2.2.2.2.2.2
    | j + 3, hy, hc => simp at hc))
  have hold : Facts.hold [] w4c := Facts.nil_hold _
  (refine wpD_plain 10 (v := ?_) rfl (by kernel_rfl) (by kernel_rfl) (by kernel_rfl) (fun _ _ _ h => h) (by rfl) ?_ (by assumption) ?_; rotate_left; (intro _w; go_simp; try with_reducible rfl); simp only [Act.put, K.put3])
  clear hold
  refine wpD_done (by kernel_rfl) ?_ _
  have HGS : Hid (w1.heap.size ≤ w4c.heap.size) := hid HG4.out.size
  have HLB : Hid (w.heap.size ≤ w1.heap.size) := hid F1.out.size
  have HB1' := hid (HB1.out.fr HG4.out id)
  have c1 : w4c.cell? ⟨w.heap.size, 1, none⟩ = some (.int .i64 120) := HB1'.out.cell 1
  have c3 : w4c.cell? ⟨w.heap.size, 3, none⟩ = some (.string (sb m.name)) := HB1'.out.cell 3
  go_wp2_with fail
  refine (wleaf_any 138 (sb m.name) w4c).mono ?_
  rintro e p1 ⟨rfl, pf⟩
  have HRp := hid (HROW.out.no pf)
  have HFp := hid (HF4.out.trans' pf)
  have HBSp : Hid (w1.heap.size ≤ p1.heap.size) := hid (Nat.le_trans HGS.out pf.size)
  clear pf
  go_wp2_with (first
    | ((with_reducible refine K.atO (.buildSlice 42 _ _) ?_); refine wpL_buildOne rfl _ 44 _ rfl ic _ Try.underlying42 IC.out ZC.out (by rw [SC.out]; decide) (by rw [SC.out]; decide) (.agg #[.int .i64 138, .string (sb m.name), .slice none 0 0]) [.int .i64 138, .string (sb m.name), .slice none 0 0] rfl rfl (by rw [SC.out]; rfl) ?_; intro p2 HBp FBp HSBp)
    | ((with_reducible refine K.atO (.call { callee := .builtin .append, args := _, argTypes := _ }) ?_); refine wpL_append rfl _ _ 42 rfl (w1.heap.size) 44 ic _ 3 48 Try.underlying42 IC.out ZC.out SC.out BC.out rfl (by decide) (Value.slice (some ⟨w3c.heap.size, 0, none⟩) 3 3) 3 _ rfl (HRp.out.no FBp.out).r (some ⟨p1.heap.size, 0, none⟩) 1 _ [.int .i64 138, .string (sb m.name), .slice none 0 0] rfl rfl (.inr ⟨_, rfl, HBp.out.news⟩) (by intro u hu; simp at hu; rcases hu with rfl | rfl | rfl <;> rfl) (by unfold maxLen; omega) (by omega) (Nat.le_trans HBSp.out FBp.out.size) ?_; intro pa pc p3 HOp HGp HAp; refine Hid.out ?_)
    | fail)
  have HFRp : Hid (Fr (fun k => (Value.slice (some ⟨w3c.heap.size, 0, none⟩) 3 3).ownBlock = some k ∨ (Value.slice pa (3 + 1) pc).ownBlock = some k) p2 p3) := hid ((frown HGp.out).mono fun k hk => .inl hk)
  have HLWp : Hid (∀ k, ((Value.slice (some ⟨w3c.heap.size, 0, none⟩) 3 3).ownBlock = some k ∨ (Value.slice pa (3 + 1) pc).ownBlock = some k) → w1.heap.size ≤ k) := hid (fun k hk => by
    rcases hk with h | h
    · exact own_low HRp.out.r k h
    · exact own_low HOp.out k h)
  have HKp := hid ((HRp.out.no FBp.out).step (N := p2.heap.size) (n := Nd.mk 138 m.name []) (cs := [.int .i64 138, .string (sb m.name), .slice none 0 0]) (leaf_any _ _ _ 138 _ ⟨by omega, by omega⟩ H.out.texts.1) (Nat.le_trans HBSp.out FBp.out.size) (fun g hg => (own_ge (HRp.out.no FBp.out).r g hg).2) HOp.out HFRp.out (or_own HAp.out))
  have HFKp : Hid (Fr No w p3) := hid ((HFp.out.trans' FBp.out).trans HFRp.out fun k hk => .inr (by have h1 := HLWp.out k hk; have h2 := HLB.out; omega))
  refine hid ?_
  go_wp2_with fail
  go_ret
  exact ⟨_, _, w1.heap.size, rfl, HLB.out, HKp.out, HFKp.out⟩
set_option maxHeartbeats 8000000 in
theorem wpieces_bind (M : Nat) (E : Nat → Prop) (m : Msg) (vk va vw vl vm : Value) (w : World) (h : MsgC M E w m vk va vw vl vm) (hop : m.op = 96)  : Calls Try.prog 47 #[.agg (mcs m vk va vw vl vm).toArray] w (RowR 8 ([nuN 2 m.ver, txN m.name, .mk 128 m.pw []]) w) := by
  have H := hid h
  have e : mcs m vk va vw vl vm = [.int .i64 m.id, .int .i64 96, .int .i64 m.ver, .string (sb m.name), .string (sb m.pw), .int .i64 m.scope, .int .i64 m.deref, .int .i64 m.size, .int .i64 m.time, .bool m.typesOnly, .int .i64 m.filter.kind, vk, .string (sb m.filter.type), .string (sb m.filter.value), .string (sb m.filter.first), va, .string (sb m.filter.last), vw, vl, vm, .string (sb m.rdn), .bool m.dropOld, .bool m.moves, .string (sb m.sup), .string (sb m.type), .string (sb m.value), .int .i64 m.target, .int .i64 m.code, .string (sb m.matched), .string (sb m.text)] := by unfold mcs; rw [hop]
  rw [e]
  clear e hop h
  obtain ⟨ic, hic, hzc, hsc, hbc⟩ := Go.info_parts infozN
  have IC := hid hic; have ZC := hid hzc; have SC := hid hsc; have BC := hid hbc
  clear hic hzc hsc hbc
  go_enter Try.func47, Try.ntmps47
  go_wp2_with (first
    | ((with_reducible refine K.atO (.box 29 _) ?_); refine wpL_box rfl _ _ rfl _ rfl [.int .i64 m.id, .int .i64 96, .int .i64 m.ver, .string (sb m.name), .string (sb m.pw), .int .i64 m.scope, .int .i64 m.deref, .int .i64 m.size, .int .i64 m.time, .bool m.typesOnly, .int .i64 m.filter.kind, vk, .string (sb m.filter.type), .string (sb m.filter.value), .string (sb m.filter.first), va, .string (sb m.filter.last), vw, vl, vm, .string (sb m.rdn), .bool m.dropOld, .bool m.moves, .string (sb m.sup), .string (sb m.type), .string (sb m.value), .int .i64 m.target, .int .i64 m.code, .string (sb m.matched), .string (sb m.text)] rfl ?_; intro w1 HB1 F1 HS1; have c3 : w1.cell? ⟨w.heap.size, 3, none⟩ = some (.string (sb m.name)) := HB1.out.cell 3)
    | fail)
  refine (wtext_any (sb m.name) w1).mono ?_
  rintro e w2 ⟨rfl, f2⟩
  have HF2 := hid (F1.out.trans' f2); have HF12 := hid f2
  have c1 : w2.cell? ⟨w.heap.size, 1, none⟩ = some (.int .i64 96) := (HB1.out.fr f2 id).cell 1
  clear c3 f2
  go_wp2_with (first
    | ((with_reducible refine K.atO (.alloc 44) ?_); refine wpL_alloc rfl _ rfl _ zeroN [.int .i64 0, .string ⟨#[]⟩, .slice none 0 0] rfl ?_; intro w3 HB3 F3 HS3; have HF3 := hid (HF2.out.trans' F3.out); have HF13 := hid (HF12.out.trans' F3.out))
    | ((with_reducible refine K.atO (.store 44 _ _) ?_); refine wpL_storeV rfl _ _ _ rfl w2.heap.size 0 (.agg #[.int .i64 4, .string (sb m.name), .slice none 0 0]) [.int .i64 4, .string (sb m.name), .slice none 0 0] rfl rfl rfl _ _ HB3.out (by simp) infoN (by intro u hu; simp at hu; rcases hu with rfl | rfl | rfl <;> rfl) ?_; intro w4 HB4 F4 HS4; have HB14 := hid ((HB1.out.fr HF13.out id).fr F4.out (fun e => by have e : w.heap.size = w2.heap.size := e; have := HS1.out; have := HF12.out.size; omega)); have HF4 := hid (HF3.out.trans F4.out fun k e => .inr (by have e : k = w2.heap.size := e; have := HF2.out.size; omega)); have c1 : w4.cell? ⟨w.heap.size, 1, none⟩ = some (.int .i64 96) := HB14.out.cell 1)
    | fail)
  have rn : w4.rangeAt w2.heap.size 0 [.int .i64 4, .string (sb m.name), .slice none 0 0] := HB4.out.range 0 _ rfl
  obtain ⟨nb, hnb⟩ : ∃ b, w2.heap.size = b := ⟨_, rfl⟩
  rw [hnb] at rn ⊢
  have k0 : w4.cell? ⟨w.heap.size, 2, none⟩ = some (.int .i64 m.ver) := HB14.out.cell 2
  have k1 : w4.cell? ⟨w.heap.size, 4, none⟩ = some (.string (sb m.pw)) := HB14.out.cell 4
  have hold : Facts.hold [(1, fun w' => w'.cell? ⟨w.heap.size, 2, none⟩ = some (.int .i64 m.ver)), (3, fun w' => w'.rangeAt nb 0 [.int .i64 4, .string (sb m.name), .slice none 0 0]), (5, fun w' => w'.cell? ⟨w.heap.size, 4, none⟩ = some (.string (sb m.pw)))] w4.drew := Facts.cons_hold k0 (Facts.cons_hold rn (Facts.cons_hold k1 (Facts.nil_hold _)))
  refine wpD_region hold (by kernel_rfl) 9 rfl ?_
  (refine wpD_plain 0 (v := ?_) rfl (by kernel_rfl) (by kernel_rfl) (by kernel_rfl) (fun _ _ _ h => h) (by rfl) ?_ (by assumption) ?_; rotate_left; (intro _w; go_simp; try with_reducible rfl); simp only [Act.put, K.put3])
  (refine wpD_take 1 _ rfl (by kernel_rfl) (by kernel_rfl) (by kernel_rfl) (fun _ _ _ h => h) List.mem_cons_self (by rfl) (v := ?_) ?_ (by assumption) ?_; rotate_left; (intro _w _hw; go_simp; try with_reducible rfl); simp only [Act.put, K.put3])
  (refine wpD_take 3 _ rfl (by kernel_rfl) (by kernel_rfl) (by kernel_rfl) (fun _ _ _ h => h) (List.mem_cons_of_mem _ List.mem_cons_self) (by rfl) (exec_load _ _ rfl nb 0 rfl _ _ rfl rfl infoN) (by assumption) ?_; simp only [Act.put, K.put3])
  (refine wpD_plain 4 (v := ?_) rfl (by kernel_rfl) (by kernel_rfl) (by kernel_rfl) (fun _ _ _ h => h) (by rfl) ?_ (by assumption) ?_; rotate_left; (intro _w; go_simp; try with_reducible rfl); simp only [Act.put, K.put3])
  (refine wpD_take 5 _ rfl (by kernel_rfl) (by kernel_rfl) (by kernel_rfl) (fun _ _ _ h => h) (List.mem_cons_of_mem _ (List.mem_cons_of_mem _ List.mem_cons_self)) (by rfl) (v := ?_) ?_ (by assumption) ?_; rotate_left; (intro _w _hw; go_simp; try with_reducible rfl); simp only [Act.put, K.put3])
  clear hold
  refine wpD_only 2 [(3, fun w' => w'.rangeAt nb 0 [.int .i64 4, .string (sb m.name), .slice none 0 0]), (5, fun w' => w'.cell? ⟨w.heap.size, 4, none⟩ = some (.string (sb m.pw)))] rfl (by kernel_rfl) (by kernel_rfl) (by rfl) (fun K2 hK2 => ?_)
  refine wp_call _ _ _ rfl 24 [] rfl (fun vs w => by kernel_rfl) [.int .i64 m.ver] (by rfl) ?_
  refine (wnumber_any m.ver w4.drew H.out.ints.2.2.1).mono ?_
  rintro e w1c ⟨rfl, f1⟩
  have hf1 : Fr No w4 w1c := (Fr.refl No w4).drew.trans' f1
  refine ⟨_, rfl, hK2 _ _ (Facts.cons_hold (hf1.range rn id) (Facts.cons_hold (hf1.cell k1 id) (Facts.nil_hold _))) ?_⟩
  have k1_3 := hf1.range rn id
  have k1_5 := hf1.cell k1 id
  have HF1 := hid (HF4.out.trans' hf1)
  have HG1 := hid hf1
  clear hK2 K2 f1 hf1 rn k1 k0
  simp only [Act.put, K.put3]
  refine wpD_only 6 [(3, fun w' => w'.rangeAt nb 0 [.int .i64 4, .string (sb m.name), .slice none 0 0])] rfl (by kernel_rfl) (by kernel_rfl) (by rfl) (fun K6 hK6 => ?_)
  refine wp_call _ _ _ rfl 45 [] rfl (fun vs w => by kernel_rfl) [.int .i64 128, .string (sb m.pw)] (by rfl) ?_
  refine (wleaf_any 128 (sb m.pw) w1c).mono ?_
  rintro e w2c ⟨rfl, f2⟩
  have hf2 : Fr No w1c w2c := f2
  refine ⟨_, rfl, hK6 _ _ (Facts.cons_hold (hf2.range k1_3 id) (Facts.nil_hold _)) ?_⟩
  have k2_3 := hf2.range k1_3 id
  have HF2 := hid (HF1.out.trans' hf2)
  have HG2 := hid (HG1.out.trans' hf2)
  clear hK6 K6 f2 hf2 k1_3 k1_5 HG1 HF1
  simp only [Act.put, K.put3]
  refine wpD_only 7 [] rfl (by kernel_rfl) (by kernel_rfl) (by rfl) (fun K7 hK7 => ?_)
  refine wp_buildRun 42 44 3 [(0, _), (1, _), (2, _)] rfl [.int .i64 2, .string (sb (intS m.ver)), .slice none 0 0, .int .i64 4, .string (sb m.name), .slice none 0 0, .int .i64 128, .string (sb m.pw), .slice none 0 0] (run_buildAll 42 44 [.agg #[.int .i64 2, .string (sb (intS m.ver)), .slice none 0 0], .agg #[.int .i64 4, .string (sb m.name), .slice none 0 0], .agg #[.int .i64 128, .string (sb m.pw), .slice none 0 0]] ic _ Try.underlying42 IC.out ZC.out (by rw [SC.out]; decide) (by rw [SC.out]; show 3 * 3 ≤ 16777216; decide) (by show 0 < 3; decide) (by rw [SC.out]; intro u hu; simp at hu; rcases hu with rfl | rfl | rfl <;> rfl) _) ?_
  intro w3c HB3 F3 HS3
  have hf3 := F3.out
  refine hK7 _ _ (Facts.nil_hold _) ?_
  have HL3 := hid HG2.out.size
  have HF3 := hid (HF2.out.trans' hf3)
  have HG3 := hid (HG2.out.trans' hf3)
  have hX3 := HB3
  clear hK7 K7 F3 hf3 HS3 HB3 k2_3 HG2 HF2
  simp only [Act.put, K.put3]
  have HROW := hid (KR.new (m := 8) (base := w4.heap.size) (acc := [nuN 2 m.ver, txN m.name, .mk 128 m.pw []]) (L := [[.int .i64 2, .string (sb (intS m.ver)), .slice none 0 0], [.int .i64 4, .string (sb m.name), .slice none 0 0], [.int .i64 128, .string (sb m.pw), .slice none 0 0]]) (N := 0) hX3.out HL3.out rfl (by intro c hc; simp at hc; rcases hc with rfl | rfl | rfl <;> rfl) (by show 3 ≤ maxLen; unfold maxLen; omega) (fun j y c hy hc => by
    match j, hy, hc with
    | 0, hy, hc => cases hy; cases hc; exact leaf_any 7 _ _ 2 (intS m.ver) ⟨by omega, by omega⟩ (int_szI m.ver)
    | 1, hy, hc => cases hy; cases hc; exact leaf_any 7 _ _ 4 m.name ⟨by omega, by omega⟩ H.out.texts.1
    | 2, hy, hc => cases hy; cases hc; exact leaf_any 7 _ _ 128 m.pw ⟨by omega, by omega⟩ H.out.texts.2.1
    | j + 3, hy, hc => simp at hc))
  have hold : Facts.hold [] w3c := Facts.nil_hold _
  (refine wpD_plain 8 (v := ?_) rfl (by kernel_rfl) (by kernel_rfl) (by kernel_rfl) (fun _ _ _ h => h) (by rfl) ?_ (by assumption) ?_; rotate_left; (intro _w; go_simp; try with_reducible rfl); simp only [Act.put, K.put3])
  clear hold
  refine wpD_done (by kernel_rfl) ?_ _
  go_wp2_with fail
  go_ret
  exact ⟨_, _, w4.heap.size, rfl, HF4.out.size, HROW.out, HF3.out⟩
set_option maxHeartbeats 8000000 in
theorem wpieces_search (M : Nat) (E : Nat → Prop) (m : Msg) (vk va vw vl vm : Value) (w : World) (h : MsgC M E w m vk va vw vl vm) (hop : m.op = 99) (hrf : rightF 6 m.filter = true) (hbf : FlB 1048576 6 m.filter) (hbw : m.wants.length ≤ 1048576) : Calls Try.prog 47 #[.agg (mcs m vk va vw vl vm).toArray] w (RowR 8 ([txN m.name, nuN 10 m.scope, nuN 10 m.deref, nuN 2 m.size, nuN 2 m.time, trN m.typesOnly, pieceF 6 m.filter, txsN 48 m.wants]) w) := by
  have H := hid h
  have HRF := hid hrf; have HBF := hid hbf; have HBW := hid hbw
  have HI7 := hid (show (Try.prog.info? 25).map (·.size) = some [Value.int .i64 m.filter.kind, vk, .string (sb m.filter.type), .string (sb m.filter.value), .string (sb m.filter.first), va, .string (sb m.filter.last)].length from infoFl)
  clear hrf hbf hbw
  have e : mcs m vk va vw vl vm = [.int .i64 m.id, .int .i64 99, .int .i64 m.ver, .string (sb m.name), .string (sb m.pw), .int .i64 m.scope, .int .i64 m.deref, .int .i64 m.size, .int .i64 m.time, .bool m.typesOnly, .int .i64 m.filter.kind, vk, .string (sb m.filter.type), .string (sb m.filter.value), .string (sb m.filter.first), va, .string (sb m.filter.last), vw, vl, vm, .string (sb m.rdn), .bool m.dropOld, .bool m.moves, .string (sb m.sup), .string (sb m.type), .string (sb m.value), .int .i64 m.target, .int .i64 m.code, .string (sb m.matched), .string (sb m.text)] := by unfold mcs; rw [hop]
  rw [e]
  clear e hop h
  obtain ⟨ic, hic, hzc, hsc, hbc⟩ := Go.info_parts infozN
  have IC := hid hic; have ZC := hid hzc; have SC := hid hsc; have BC := hid hbc
  clear hic hzc hsc hbc
  go_enter Try.func47, Try.ntmps47
  go_wp2_with (first
    | ((with_reducible refine K.atO (.box 29 _) ?_); refine wpL_box rfl _ _ rfl _ rfl [.int .i64 m.id, .int .i64 99, .int .i64 m.ver, .string (sb m.name), .string (sb m.pw), .int .i64 m.scope, .int .i64 m.deref, .int .i64 m.size, .int .i64 m.time, .bool m.typesOnly, .int .i64 m.filter.kind, vk, .string (sb m.filter.type), .string (sb m.filter.value), .string (sb m.filter.first), va, .string (sb m.filter.last), vw, vl, vm, .string (sb m.rdn), .bool m.dropOld, .bool m.moves, .string (sb m.sup), .string (sb m.type), .string (sb m.value), .int .i64 m.target, .int .i64 m.code, .string (sb m.matched), .string (sb m.text)] rfl ?_; intro w1 HB1 F1 HS1; have c3 : w1.cell? ⟨w.heap.size, 3, none⟩ = some (.string (sb m.name)) := HB1.out.cell 3)
    | fail)
  refine (wtext_any (sb m.name) w1).mono ?_
  rintro e w2 ⟨rfl, f2⟩
  have HF2 := hid (F1.out.trans' f2); have HF12 := hid f2
  have c1 : w2.cell? ⟨w.heap.size, 1, none⟩ = some (.int .i64 99) := (HB1.out.fr f2 id).cell 1
  clear c3 f2
  go_wp2_with (first
    | ((with_reducible refine K.atO (.alloc 44) ?_); refine wpL_alloc rfl _ rfl _ zeroN [.int .i64 0, .string ⟨#[]⟩, .slice none 0 0] rfl ?_; intro w3 HB3 F3 HS3; have HF3 := hid (HF2.out.trans' F3.out); have HF13 := hid (HF12.out.trans' F3.out))
    | ((with_reducible refine K.atO (.store 44 _ _) ?_); refine wpL_storeV rfl _ _ _ rfl w2.heap.size 0 (.agg #[.int .i64 4, .string (sb m.name), .slice none 0 0]) [.int .i64 4, .string (sb m.name), .slice none 0 0] rfl rfl rfl _ _ HB3.out (by simp) infoN (by intro u hu; simp at hu; rcases hu with rfl | rfl | rfl <;> rfl) ?_; intro w4 HB4 F4 HS4; have HB14 := hid ((HB1.out.fr HF13.out id).fr F4.out (fun e => by have e : w.heap.size = w2.heap.size := e; have := HS1.out; have := HF12.out.size; omega)); have HF4 := hid (HF3.out.trans F4.out fun k e => .inr (by have e : k = w2.heap.size := e; have := HF2.out.size; omega)); have c1 : w4.cell? ⟨w.heap.size, 1, none⟩ = some (.int .i64 99) := HB14.out.cell 1)
    | fail)
  have rn : w4.rangeAt w2.heap.size 0 [.int .i64 4, .string (sb m.name), .slice none 0 0] := HB4.out.range 0 _ rfl
  obtain ⟨nb, hnb⟩ : ∃ b, w2.heap.size = b := ⟨_, rfl⟩
  rw [hnb] at rn ⊢
  have k0 : w4.cell? ⟨w.heap.size, 5, none⟩ = some (.int .i64 m.scope) := HB14.out.cell 5
  have k1 : w4.cell? ⟨w.heap.size, 6, none⟩ = some (.int .i64 m.deref) := HB14.out.cell 6
  have k2 : w4.cell? ⟨w.heap.size, 7, none⟩ = some (.int .i64 m.size) := HB14.out.cell 7
  have k3 : w4.cell? ⟨w.heap.size, 8, none⟩ = some (.int .i64 m.time) := HB14.out.cell 8
  have k4 : w4.cell? ⟨w.heap.size, 9, none⟩ = some (.bool m.typesOnly) := HB14.out.cell 9
  have k5 : w4.rangeAt w.heap.size 10 [.int .i64 m.filter.kind, vk, .string (sb m.filter.type), .string (sb m.filter.value), .string (sb m.filter.first), va, .string (sb m.filter.last)] := HB14.out.range 10 _ rfl
  have k6 : w4.cell? ⟨w.heap.size, 17, none⟩ = some (vw) := HB14.out.cell 17
  have hold : Facts.hold [(0, fun w' => w'.rangeAt nb 0 [.int .i64 4, .string (sb m.name), .slice none 0 0]), (2, fun w' => w'.cell? ⟨w.heap.size, 5, none⟩ = some (.int .i64 m.scope)), (5, fun w' => w'.cell? ⟨w.heap.size, 6, none⟩ = some (.int .i64 m.deref)), (8, fun w' => w'.cell? ⟨w.heap.size, 7, none⟩ = some (.int .i64 m.size)), (11, fun w' => w'.cell? ⟨w.heap.size, 8, none⟩ = some (.int .i64 m.time)), (14, fun w' => w'.cell? ⟨w.heap.size, 9, none⟩ = some (.bool m.typesOnly)), (17, fun w' => w'.rangeAt w.heap.size 10 [.int .i64 m.filter.kind, vk, .string (sb m.filter.type), .string (sb m.filter.value), .string (sb m.filter.first), va, .string (sb m.filter.last)]), (20, fun w' => w'.cell? ⟨w.heap.size, 17, none⟩ = some (vw))] w4.drew := Facts.cons_hold rn (Facts.cons_hold k0 (Facts.cons_hold k1 (Facts.cons_hold k2 (Facts.cons_hold k3 (Facts.cons_hold k4 (Facts.cons_hold k5 (Facts.cons_hold k6 (Facts.nil_hold _))))))))
  refine wpD_region hold (by kernel_rfl) 24 rfl ?_
  (refine wpD_take 0 _ rfl (by kernel_rfl) (by kernel_rfl) (by kernel_rfl) (fun _ _ _ h => h) List.mem_cons_self (by rfl) (exec_load _ _ rfl nb 0 rfl _ _ rfl rfl infoN) (by assumption) ?_; simp only [Act.put, K.put3])
  (refine wpD_plain 1 (v := ?_) rfl (by kernel_rfl) (by kernel_rfl) (by kernel_rfl) (fun _ _ _ h => h) (by rfl) ?_ (by assumption) ?_; rotate_left; (intro _w; go_simp; try with_reducible rfl); simp only [Act.put, K.put3])
  (refine wpD_take 2 _ rfl (by kernel_rfl) (by kernel_rfl) (by kernel_rfl) (fun _ _ _ h => h) (List.mem_cons_of_mem _ List.mem_cons_self) (by rfl) (v := ?_) ?_ (by assumption) ?_; rotate_left; (intro _w _hw; go_simp; try with_reducible rfl); simp only [Act.put, K.put3])
  (refine wpD_plain 4 (v := ?_) rfl (by kernel_rfl) (by kernel_rfl) (by kernel_rfl) (fun _ _ _ h => h) (by rfl) ?_ (by assumption) ?_; rotate_left; (intro _w; go_simp; try with_reducible rfl); simp only [Act.put, K.put3])
  (refine wpD_take 5 _ rfl (by kernel_rfl) (by kernel_rfl) (by kernel_rfl) (fun _ _ _ h => h) (List.mem_cons_of_mem _ (List.mem_cons_of_mem _ List.mem_cons_self)) (by rfl) (v := ?_) ?_ (by assumption) ?_; rotate_left; (intro _w _hw; go_simp; try with_reducible rfl); simp only [Act.put, K.put3])
  (refine wpD_plain 7 (v := ?_) rfl (by kernel_rfl) (by kernel_rfl) (by kernel_rfl) (fun _ _ _ h => h) (by rfl) ?_ (by assumption) ?_; rotate_left; (intro _w; go_simp; try with_reducible rfl); simp only [Act.put, K.put3])
  (refine wpD_take 8 _ rfl (by kernel_rfl) (by kernel_rfl) (by kernel_rfl) (fun _ _ _ h => h) (List.mem_cons_of_mem _ (List.mem_cons_of_mem _ (List.mem_cons_of_mem _ List.mem_cons_self))) (by rfl) (v := ?_) ?_ (by assumption) ?_; rotate_left; (intro _w _hw; go_simp; try with_reducible rfl); simp only [Act.put, K.put3])
  (refine wpD_plain 10 (v := ?_) rfl (by kernel_rfl) (by kernel_rfl) (by kernel_rfl) (fun _ _ _ h => h) (by rfl) ?_ (by assumption) ?_; rotate_left; (intro _w; go_simp; try with_reducible rfl); simp only [Act.put, K.put3])
  (refine wpD_take 11 _ rfl (by kernel_rfl) (by kernel_rfl) (by kernel_rfl) (fun _ _ _ h => h) (List.mem_cons_of_mem _ (List.mem_cons_of_mem _ (List.mem_cons_of_mem _ (List.mem_cons_of_mem _ List.mem_cons_self)))) (by rfl) (v := ?_) ?_ (by assumption) ?_; rotate_left; (intro _w _hw; go_simp; try with_reducible rfl); simp only [Act.put, K.put3])
  (refine wpD_plain 13 (v := ?_) rfl (by kernel_rfl) (by kernel_rfl) (by kernel_rfl) (fun _ _ _ h => h) (by rfl) ?_ (by assumption) ?_; rotate_left; (intro _w; go_simp; try with_reducible rfl); simp only [Act.put, K.put3])
  (refine wpD_take 14 _ rfl (by kernel_rfl) (by kernel_rfl) (by kernel_rfl) (fun _ _ _ h => h) (List.mem_cons_of_mem _ (List.mem_cons_of_mem _ (List.mem_cons_of_mem _ (List.mem_cons_of_mem _ (List.mem_cons_of_mem _ List.mem_cons_self))))) (by rfl) (v := ?_) ?_ (by assumption) ?_; rotate_left; (intro _w _hw; go_simp; try with_reducible rfl); simp only [Act.put, K.put3])
  (refine wpD_plain 16 (v := ?_) rfl (by kernel_rfl) (by kernel_rfl) (by kernel_rfl) (fun _ _ _ h => h) (by rfl) ?_ (by assumption) ?_; rotate_left; (intro _w; go_simp; try with_reducible rfl); simp only [Act.put, K.put3])
  (refine wpD_take 17 _ rfl (by kernel_rfl) (by kernel_rfl) (by kernel_rfl) (fun _ _ _ h => h) (List.mem_cons_of_mem _ (List.mem_cons_of_mem _ (List.mem_cons_of_mem _ (List.mem_cons_of_mem _ (List.mem_cons_of_mem _ (List.mem_cons_of_mem _ List.mem_cons_self)))))) (by rfl) (exec_load _ _ rfl w.heap.size 10 rfl _ _ rfl rfl HI7.out) (by assumption) ?_; simp only [Act.put, K.put3])
  (refine wpD_plain 19 (v := ?_) rfl (by kernel_rfl) (by kernel_rfl) (by kernel_rfl) (fun _ _ _ h => h) (by rfl) ?_ (by assumption) ?_; rotate_left; (intro _w; go_simp; try with_reducible rfl); simp only [Act.put, K.put3])
  (refine wpD_take 20 _ rfl (by kernel_rfl) (by kernel_rfl) (by kernel_rfl) (fun _ _ _ h => h) (List.mem_cons_of_mem _ (List.mem_cons_of_mem _ (List.mem_cons_of_mem _ (List.mem_cons_of_mem _ (List.mem_cons_of_mem _ (List.mem_cons_of_mem _ (List.mem_cons_of_mem _ List.mem_cons_self))))))) (by rfl) (v := ?_) ?_ (by assumption) ?_; rotate_left; (intro _w _hw; go_simp; try with_reducible rfl); simp only [Act.put, K.put3])
  clear hold
  refine wpD_only 3 [(0, fun w' => w'.rangeAt nb 0 [.int .i64 4, .string (sb m.name), .slice none 0 0]), (5, fun w' => w'.cell? ⟨w.heap.size, 6, none⟩ = some (.int .i64 m.deref)), (8, fun w' => w'.cell? ⟨w.heap.size, 7, none⟩ = some (.int .i64 m.size)), (11, fun w' => w'.cell? ⟨w.heap.size, 8, none⟩ = some (.int .i64 m.time)), (14, fun w' => w'.cell? ⟨w.heap.size, 9, none⟩ = some (.bool m.typesOnly)), (17, fun w' => w'.rangeAt w.heap.size 10 [.int .i64 m.filter.kind, vk, .string (sb m.filter.type), .string (sb m.filter.value), .string (sb m.filter.first), va, .string (sb m.filter.last)]), (20, fun w' => w'.cell? ⟨w.heap.size, 17, none⟩ = some (vw))] rfl (by kernel_rfl) (by kernel_rfl) (by rfl) (fun K3 hK3 => ?_)
  refine wp_call _ _ _ rfl 72 [] rfl (fun vs w => by kernel_rfl) [.int .i64 m.scope] (by rfl) ?_
  refine (wchoice_any m.scope w4.drew H.out.ints.2.2.2.1).mono ?_
  rintro e w1c ⟨rfl, f1⟩
  have hf1 : Fr No w4 w1c := (Fr.refl No w4).drew.trans' f1
  refine ⟨_, rfl, hK3 _ _ (Facts.cons_hold (hf1.range rn id) (Facts.cons_hold (hf1.cell k1 id) (Facts.cons_hold (hf1.cell k2 id) (Facts.cons_hold (hf1.cell k3 id) (Facts.cons_hold (hf1.cell k4 id) (Facts.cons_hold (hf1.range k5 id) (Facts.cons_hold (hf1.cell k6 id) (Facts.nil_hold _)))))))) ?_⟩
  have k1_0 := hf1.range rn id
  have k1_5 := hf1.cell k1 id
  have k1_8 := hf1.cell k2 id
  have k1_11 := hf1.cell k3 id
  have k1_14 := hf1.cell k4 id
  have k1_17 := hf1.range k5 id
  have k1_20 := hf1.cell k6 id
  have HF1 := hid (HF4.out.trans' hf1)
  have HG1 := hid hf1
  clear hK3 K3 f1 hf1 rn k1 k2 k3 k4 k5 k6 k0
  simp only [Act.put, K.put3]
  refine wpD_only 6 [(0, fun w' => w'.rangeAt nb 0 [.int .i64 4, .string (sb m.name), .slice none 0 0]), (8, fun w' => w'.cell? ⟨w.heap.size, 7, none⟩ = some (.int .i64 m.size)), (11, fun w' => w'.cell? ⟨w.heap.size, 8, none⟩ = some (.int .i64 m.time)), (14, fun w' => w'.cell? ⟨w.heap.size, 9, none⟩ = some (.bool m.typesOnly)), (17, fun w' => w'.rangeAt w.heap.size 10 [.int .i64 m.filter.kind, vk, .string (sb m.filter.type), .string (sb m.filter.value), .string (sb m.filter.first), va, .string (sb m.filter.last)]), (20, fun w' => w'.cell? ⟨w.heap.size, 17, none⟩ = some (vw))] rfl (by kernel_rfl) (by kernel_rfl) (by rfl) (fun K6 hK6 => ?_)
  refine wp_call _ _ _ rfl 72 [] rfl (fun vs w => by kernel_rfl) [.int .i64 m.deref] (by rfl) ?_
  refine (wchoice_any m.deref w1c H.out.ints.2.2.2.2.1).mono ?_
  rintro e w2c ⟨rfl, f2⟩
  have hf2 : Fr No w1c w2c := f2
  refine ⟨_, rfl, hK6 _ _ (Facts.cons_hold (hf2.range k1_0 id) (Facts.cons_hold (hf2.cell k1_8 id) (Facts.cons_hold (hf2.cell k1_11 id) (Facts.cons_hold (hf2.cell k1_14 id) (Facts.cons_hold (hf2.range k1_17 id) (Facts.cons_hold (hf2.cell k1_20 id) (Facts.nil_hold _))))))) ?_⟩
  have k2_0 := hf2.range k1_0 id
  have k2_8 := hf2.cell k1_8 id
  have k2_11 := hf2.cell k1_11 id
  have k2_14 := hf2.cell k1_14 id
  have k2_17 := hf2.range k1_17 id
  have k2_20 := hf2.cell k1_20 id
  have HF2 := hid (HF1.out.trans' hf2)
  have HG2 := hid (HG1.out.trans' hf2)
  clear hK6 K6 f2 hf2 k1_0 k1_8 k1_11 k1_14 k1_17 k1_20 k1_5 HG1 HF1
  simp only [Act.put, K.put3]
  refine wpD_only 9 [(0, fun w' => w'.rangeAt nb 0 [.int .i64 4, .string (sb m.name), .slice none 0 0]), (11, fun w' => w'.cell? ⟨w.heap.size, 8, none⟩ = some (.int .i64 m.time)), (14, fun w' => w'.cell? ⟨w.heap.size, 9, none⟩ = some (.bool m.typesOnly)), (17, fun w' => w'.rangeAt w.heap.size 10 [.int .i64 m.filter.kind, vk, .string (sb m.filter.type), .string (sb m.filter.value), .string (sb m.filter.first), va, .string (sb m.filter.last)]), (20, fun w' => w'.cell? ⟨w.heap.size, 17, none⟩ = some (vw))] rfl (by kernel_rfl) (by kernel_rfl) (by rfl) (fun K9 hK9 => ?_)
  refine wp_call _ _ _ rfl 24 [] rfl (fun vs w => by kernel_rfl) [.int .i64 m.size] (by rfl) ?_
  refine (wnumber_any m.size w2c H.out.ints.2.2.2.2.2.1).mono ?_
  rintro e w3c ⟨rfl, f3⟩
  have hf3 : Fr No w2c w3c := f3
  refine ⟨_, rfl, hK9 _ _ (Facts.cons_hold (hf3.range k2_0 id) (Facts.cons_hold (hf3.cell k2_11 id) (Facts.cons_hold (hf3.cell k2_14 id) (Facts.cons_hold (hf3.range k2_17 id) (Facts.cons_hold (hf3.cell k2_20 id) (Facts.nil_hold _)))))) ?_⟩
  have k3_0 := hf3.range k2_0 id
  have k3_11 := hf3.cell k2_11 id
  have k3_14 := hf3.cell k2_14 id
  have k3_17 := hf3.range k2_17 id
  have k3_20 := hf3.cell k2_20 id
  have HF3 := hid (HF2.out.trans' hf3)
  have HG3 := hid (HG2.out.trans' hf3)
  clear hK9 K9 f3 hf3 k2_0 k2_11 k2_14 k2_17 k2_20 k2_8 HG2 HF2
  simp only [Act.put, K.put3]
  refine wpD_only 12 [(0, fun w' => w'.rangeAt nb 0 [.int .i64 4, .string (sb m.name), .slice none 0 0]), (14, fun w' => w'.cell? ⟨w.heap.size, 9, none⟩ = some (.bool m.typesOnly)), (17, fun w' => w'.rangeAt w.heap.size 10 [.int .i64 m.filter.kind, vk, .string (sb m.filter.type), .string (sb m.filter.value), .string (sb m.filter.first), va, .string (sb m.filter.last)]), (20, fun w' => w'.cell? ⟨w.heap.size, 17, none⟩ = some (vw))] rfl (by kernel_rfl) (by kernel_rfl) (by rfl) (fun K12 hK12 => ?_)
  refine wp_call _ _ _ rfl 24 [] rfl (fun vs w => by kernel_rfl) [.int .i64 m.time] (by rfl) ?_
  refine (wnumber_any m.time w3c H.out.ints.2.2.2.2.2.2.1).mono ?_
  rintro e w4c ⟨rfl, f4⟩
  have hf4 : Fr No w3c w4c := f4
  refine ⟨_, rfl, hK12 _ _ (Facts.cons_hold (hf4.range k3_0 id) (Facts.cons_hold (hf4.cell k3_14 id) (Facts.cons_hold (hf4.range k3_17 id) (Facts.cons_hold (hf4.cell k3_20 id) (Facts.nil_hold _))))) ?_⟩
  have k4_0 := hf4.range k3_0 id
  have k4_14 := hf4.cell k3_14 id
  have k4_17 := hf4.range k3_17 id
  have k4_20 := hf4.cell k3_20 id
  have HF4 := hid (HF3.out.trans' hf4)
  have HG4 := hid (HG3.out.trans' hf4)
  clear hK12 K12 f4 hf4 k3_0 k3_14 k3_17 k3_20 k3_11 HG3 HF3
  simp only [Act.put, K.put3]
  refine wpD_only 15 [(0, fun w' => w'.rangeAt nb 0 [.int .i64 4, .string (sb m.name), .slice none 0 0]), (17, fun w' => w'.rangeAt w.heap.size 10 [.int .i64 m.filter.kind, vk, .string (sb m.filter.type), .string (sb m.filter.value), .string (sb m.filter.first), va, .string (sb m.filter.last)]), (20, fun w' => w'.cell? ⟨w.heap.size, 17, none⟩ = some (vw))] rfl (by kernel_rfl) (by kernel_rfl) (by rfl) (fun K15 hK15 => ?_)
  refine wp_call _ _ _ rfl 73 [] rfl (fun vs w => by kernel_rfl) [.bool m.typesOnly] (by rfl) ?_
  refine (wtruth_any m.typesOnly w4c).mono ?_
  rintro e w5c ⟨rfl, f5⟩
  have hf5 : Fr No w4c w5c := f5
  refine ⟨_, rfl, hK15 _ _ (Facts.cons_hold (hf5.range k4_0 id) (Facts.cons_hold (hf5.range k4_17 id) (Facts.cons_hold (hf5.cell k4_20 id) (Facts.nil_hold _)))) ?_⟩
  have k5_0 := hf5.range k4_0 id
  have k5_17 := hf5.range k4_17 id
  have k5_20 := hf5.cell k4_20 id
  have HF5 := hid (HF4.out.trans' hf5)
  have HG5 := hid (HG4.out.trans' hf5)
  clear hK15 K15 f5 hf5 k4_0 k4_17 k4_20 k4_14 HG4 HF4
  simp only [Act.put, K.put3]
  obtain ⟨tb, htb⟩ : ∃ x : B, (if m.typesOnly = true then [255] else [0]) = x := ⟨_, rfl⟩
  rw [htb]
  have HTB := hid htb
  have HTZ : Hid (Sz tb) := hid (by rw [← htb]; show List.length _ ≤ _; split <;> simp)
  clear htb
  refine wpD_only 18 [(0, fun w' => w'.rangeAt nb 0 [.int .i64 4, .string (sb m.name), .slice none 0 0]), (20, fun w' => w'.cell? ⟨w.heap.size, 17, none⟩ = some (vw))] rfl (by kernel_rfl) (by kernel_rfl) (by rfl) (fun K18 hK18 => ?_)
  refine wp_call _ _ _ rfl 74 [] rfl (fun vs w => by kernel_rfl) [.agg #[.int .i64 m.filter.kind, vk, .string (sb m.filter.type), .string (sb m.filter.value), .string (sb m.filter.first), va, .string (sb m.filter.last)]] (by rfl) ?_
  refine (wfilter_any 6 M E m.filter [.int .i64 m.filter.kind, vk, .string (sb m.filter.type), .string (sb m.filter.value), .string (sb m.filter.first), va, .string (sb m.filter.last)] w5c (H.out.filter.no HF5.out) HRF.out HBF.out).mono ?_
  rintro e w6c ⟨ds18, rfl, hnd18, f6⟩
  have hf6 : Fr No w5c w6c := f6
  refine ⟨_, rfl, hK18 _ _ (Facts.cons_hold (hf6.range k5_0 id) (Facts.cons_hold (hf6.cell k5_20 id) (Facts.nil_hold _))) ?_⟩
  have k6_0 := hf6.range k5_0 id
  have k6_20 := hf6.cell k5_20 id
  have HF6 := hid (HF5.out.trans' hf6)
  have HG6 := hid (HG5.out.trans' hf6)
  obtain ⟨d18_0, d18_1, d18_2, rfl⟩ : ∃ a b c, ds18 = [a, b, c] := by
    have := hnd18.len
    match ds18, this with
    | [a, b, c], _ => exact ⟨a, b, c, rfl⟩
  have HM6_m18 := hid (since_le (N' := w4.heap.size) hnd18 (Nat.le_trans HG5.out.size (Nat.le_refl _)))
  clear hnd18
  clear hK18 K18 f6 hf6 k5_0 k5_20 k5_17 HG5 HF5
  simp only [Act.put, K.put3]
  refine wpD_only 21 [(0, fun w' => w'.rangeAt nb 0 [.int .i64 4, .string (sb m.name), .slice none 0 0])] rfl (by kernel_rfl) (by kernel_rfl) (by rfl) (fun K21 hK21 => ?_)
  refine wp_call _ _ _ rfl 75 [] rfl (fun vs w => by kernel_rfl) [.int .i64 48, vw, .func (.func 71) #[] #[]] (by rfl) ?_
  refine (wtexts_any 48 E vw m.wants w6c ⟨by omega, by omega⟩ (H.out.wants.no HF6.out) HBW.out).mono ?_
  rintro e w7c ⟨ds21, rfl, hnd21, f7⟩
  have hf7 : Fr No w6c w7c := f7
  refine ⟨_, rfl, hK21 _ _ (Facts.cons_hold (hf7.range k6_0 id) (Facts.nil_hold _)) ?_⟩
  have k7_0 := hf7.range k6_0 id
  have HM7_m18 := hid (HM6_m18.out.no hf7)
  have HF7 := hid (HF6.out.trans' hf7)
  have HG7 := hid (HG6.out.trans' hf7)
  obtain ⟨d21_0, d21_1, d21_2, rfl⟩ : ∃ a b c, ds21 = [a, b, c] := by
    have := hnd21.len
    match ds21, this with
    | [a, b, c], _ => exact ⟨a, b, c, rfl⟩
  have HM7_m21 := hid (since_le (N' := w4.heap.size) hnd21 (Nat.le_trans HG6.out.size (Nat.le_refl _)))
  clear hnd21
  clear hK21 K21 f7 hf7 k6_0 k6_20 HM6_m18 HG6 HF6
  simp only [Act.put, K.put3]
  have HQ_m18 : Hid (NdAt 8 (fun k => w4.heap.size ≤ k ∧ k ≠ w7c.heap.size) w7c _ _) := hid (NdAt.mono (fun k hk hs => ⟨hs, by omega⟩) HM7_m18.out)
  have HQ_m21 : Hid (NdAt 2 (fun k => w4.heap.size ≤ k ∧ k ≠ w7c.heap.size) w7c _ _) := hid (NdAt.mono (fun k hk hs => ⟨hs, by omega⟩) HM7_m21.out)
  refine wpD_only 22 [] rfl (by kernel_rfl) (by kernel_rfl) (by rfl) (fun K22 hK22 => ?_)
  refine wp_buildRun 42 44 8 [(0, _), (1, _), (2, _), (3, _), (4, _), (5, _), (6, _), (7, _)] rfl [.int .i64 4, .string (sb m.name), .slice none 0 0, .int .i64 10, .string (sb (intS m.scope)), .slice none 0 0, .int .i64 10, .string (sb (intS m.deref)), .slice none 0 0, .int .i64 2, .string (sb (intS m.size)), .slice none 0 0, .int .i64 2, .string (sb (intS m.time)), .slice none 0 0, .int .i64 1, .string (sb tb), .slice none 0 0, d18_0, d18_1, d18_2, d21_0, d21_1, d21_2] (run_buildAll 42 44 [.agg #[.int .i64 4, .string (sb m.name), .slice none 0 0], .agg #[.int .i64 10, .string (sb (intS m.scope)), .slice none 0 0], .agg #[.int .i64 10, .string (sb (intS m.deref)), .slice none 0 0], .agg #[.int .i64 2, .string (sb (intS m.size)), .slice none 0 0], .agg #[.int .i64 2, .string (sb (intS m.time)), .slice none 0 0], .agg #[.int .i64 1, .string (sb tb), .slice none 0 0], .agg #[d18_0, d18_1, d18_2], .agg #[d21_0, d21_1, d21_2]] ic _ Try.underlying42 IC.out ZC.out (by rw [SC.out]; decide) (by rw [SC.out]; show 8 * 3 ≤ 16777216; decide) (by show 0 < 8; decide) (by rw [SC.out]; intro u hu; simp at hu; rcases hu with rfl | rfl | rfl | rfl | rfl | rfl | rfl | rfl <;> rfl) _) ?_
  intro w8c HB8 F8 HS8
  have hf8 := F8.out
  refine hK22 _ _ (Facts.nil_hold _) ?_
  have HL8 := hid HG7.out.size
  have HM8_m18 := hid (HQ_m18.out.no hf8)
  have HM8_m21 := hid (HQ_m21.out.no hf8)
  have HF8 := hid (HF7.out.trans' hf8)
  have HG8 := hid (HG7.out.trans' hf8)
  have hX8 := HB8
  clear hK22 K22 F8 hf8 HS8 HB8 k7_0 HQ_m18 HQ_m21 HG7 HF7
  simp only [Act.put, K.put3]
  have HROW := hid (KR.new (m := 8) (base := w4.heap.size) (acc := [txN m.name, nuN 10 m.scope, nuN 10 m.deref, nuN 2 m.size, nuN 2 m.time, trN m.typesOnly, pieceF 6 m.filter, txsN 48 m.wants]) (L := [[.int .i64 4, .string (sb m.name), .slice none 0 0], [.int .i64 10, .string (sb (intS m.scope)), .slice none 0 0], [.int .i64 10, .string (sb (intS m.deref)), .slice none 0 0], [.int .i64 2, .string (sb (intS m.size)), .slice none 0 0], [.int .i64 2, .string (sb (intS m.time)), .slice none 0 0], [.int .i64 1, .string (sb tb), .slice none 0 0], [d18_0, d18_1, d18_2], [d21_0, d21_1, d21_2]]) (N := 0) hX8.out HL8.out rfl (by intro c hc; simp at hc; rcases hc with rfl | rfl | rfl | rfl | rfl | rfl | rfl | rfl <;> rfl) (by show 8 ≤ maxLen; unfold maxLen; omega) (fun j y c hy hc => by
    match j, hy, hc with
    | 0, hy, hc => cases hy; cases hc; exact leaf_any 7 _ _ 4 m.name ⟨by omega, by omega⟩ H.out.texts.1
    | 1, hy, hc => cases hy; cases hc; exact leaf_any 7 _ _ 10 (intS m.scope) ⟨by omega, by omega⟩ (int_szI m.scope)
    | 2, hy, hc => cases hy; cases hc; exact leaf_any 7 _ _ 10 (intS m.deref) ⟨by omega, by omega⟩ (int_szI m.deref)
    | 3, hy, hc => cases hy; cases hc; exact leaf_any 7 _ _ 2 (intS m.size) ⟨by omega, by omega⟩ (int_szI m.size)
    | 4, hy, hc => cases hy; cases hc; exact leaf_any 7 _ _ 2 (intS m.time) ⟨by omega, by omega⟩ (int_szI m.time)
    | 5, hy, hc => cases hy; cases hc; exact (by show NdAt _ _ _ (.mk 1 (if m.typesOnly = true then [255] else [0]) []) _; rw [HTB.out]; exact leaf_any 7 _ _ 1 tb ⟨by omega, by omega⟩ HTZ.out)
    | 6, hy, hc => cases hy; cases hc; exact nd_le HM8_m18.out (by omega)
    | 7, hy, hc => cases hy; cases hc; exact nd_le HM8_m21.out (by omega)
    | j + 8, hy, hc => simp at hc))
  have hold : Facts.hold [] w8c := Facts.nil_hold _
  (refine wpD_plain 23 (v := ?_) rfl (by kernel_rfl) (by kernel_rfl) (by kernel_rfl) (fun _ _ _ h => h) (by rfl) ?_ (by assumption) ?_; rotate_left; (intro _w; go_simp; try with_reducible rfl); simp only [Act.put, K.put3])
  clear hold
  refine wpD_done (by kernel_rfl) ?_ _
  go_wp2_with fail
  go_ret
  exact ⟨_, _, w4.heap.size, rfl, HF4.out.size, HROW.out, HF8.out⟩
theorem AtC.one {S : Nat → Prop} {w : World} {x : At} {cs : List Value} (h : AtC S w x cs) : ∀ u ∈ cs, u.oneCell' = true := by
  obtain ⟨v, rfl, -, ht⟩ := h
  obtain ⟨_, _, rfl, -, -⟩ := ht.form
  intro u hu
  simp at hu
  rcases hu with rfl | rfl <;> rfl
theorem MoC.one {S : Nat → Prop} {w : World} {x : Mo} {cs : List Value} (h : MoC S w x cs) : ∀ u ∈ cs, u.oneCell' = true := by
  obtain ⟨v, rfl, -, -, ht⟩ := h
  obtain ⟨_, _, rfl, -, -⟩ := ht.form
  intro u hu
  simp at hu
  rcases hu with rfl | rfl | rfl <;> rfl
set_option maxHeartbeats 8000000 in
theorem wpieces_modify (M : Nat) (E : Nat → Prop) (m : Msg) (vk va vw vl vm : Value) (w : World) (h : MsgC M E w m vk va vw vl vm) (hop : m.op = 102) (hbl : m.mods.length ≤ 1048576) (hbx : ∀ x ∈ m.mods, x.attr.values.length ≤ 1048576) : Calls Try.prog 47 #[.agg (mcs m vk va vw vl vm).toArray] w (RowR 8 ([txN m.name, .mk 48 [] (m.mods.map moN)]) w) := by
  have H := hid h
  have HBL := hid hbl; have HBX := hid hbx
  clear hbl hbx
  have e : mcs m vk va vw vl vm = [.int .i64 m.id, .int .i64 102, .int .i64 m.ver, .string (sb m.name), .string (sb m.pw), .int .i64 m.scope, .int .i64 m.deref, .int .i64 m.size, .int .i64 m.time, .bool m.typesOnly, .int .i64 m.filter.kind, vk, .string (sb m.filter.type), .string (sb m.filter.value), .string (sb m.filter.first), va, .string (sb m.filter.last), vw, vl, vm, .string (sb m.rdn), .bool m.dropOld, .bool m.moves, .string (sb m.sup), .string (sb m.type), .string (sb m.value), .int .i64 m.target, .int .i64 m.code, .string (sb m.matched), .string (sb m.text)] := by unfold mcs; rw [hop]
  rw [e]
  clear e hop h
  obtain ⟨ic, hic, hzc, hsc, hbc⟩ := Go.info_parts infozN
  have IC := hid hic; have ZC := hid hzc; have SC := hid hsc; have BC := hid hbc
  clear hic hzc hsc hbc
  go_enter Try.func47, Try.ntmps47
  go_wp2_with (first
    | ((with_reducible refine K.atO (.box 29 _) ?_); refine wpL_box rfl _ _ rfl _ rfl [.int .i64 m.id, .int .i64 102, .int .i64 m.ver, .string (sb m.name), .string (sb m.pw), .int .i64 m.scope, .int .i64 m.deref, .int .i64 m.size, .int .i64 m.time, .bool m.typesOnly, .int .i64 m.filter.kind, vk, .string (sb m.filter.type), .string (sb m.filter.value), .string (sb m.filter.first), va, .string (sb m.filter.last), vw, vl, vm, .string (sb m.rdn), .bool m.dropOld, .bool m.moves, .string (sb m.sup), .string (sb m.type), .string (sb m.value), .int .i64 m.target, .int .i64 m.code, .string (sb m.matched), .string (sb m.text)] rfl ?_; intro w1 HB1 F1 HS1; have c3 : w1.cell? ⟨w.heap.size, 3, none⟩ = some (.string (sb m.name)) := HB1.out.cell 3)
    | fail)
  refine (wtext_any (sb m.name) w1).mono ?_
  rintro e w2 ⟨rfl, f2⟩
  have HF2 := hid (F1.out.trans' f2); have HF12 := hid f2
  have c1 : w2.cell? ⟨w.heap.size, 1, none⟩ = some (.int .i64 102) := (HB1.out.fr f2 id).cell 1
  clear c3 f2
  go_wp2_with (first
    | ((with_reducible refine K.atO (.alloc 44) ?_); refine wpL_alloc rfl _ rfl _ zeroN [.int .i64 0, .string ⟨#[]⟩, .slice none 0 0] rfl ?_; intro w3 HB3 F3 HS3; have HF3 := hid (HF2.out.trans' F3.out); have HF13 := hid (HF12.out.trans' F3.out))
    | ((with_reducible refine K.atO (.store 44 _ _) ?_); refine wpL_storeV rfl _ _ _ rfl w2.heap.size 0 (.agg #[.int .i64 4, .string (sb m.name), .slice none 0 0]) [.int .i64 4, .string (sb m.name), .slice none 0 0] rfl rfl rfl _ _ HB3.out (by simp) infoN (by intro u hu; simp at hu; rcases hu with rfl | rfl | rfl <;> rfl) ?_; intro w4 HB4 F4 HS4; have HB14 := hid ((HB1.out.fr HF13.out id).fr F4.out (fun e => by have e : w.heap.size = w2.heap.size := e; have := HS1.out; have := HF12.out.size; omega)); have HF4 := hid (HF3.out.trans F4.out fun k e => .inr (by have e : k = w2.heap.size := e; have := HF2.out.size; omega)); have c1 : w4.cell? ⟨w.heap.size, 1, none⟩ = some (.int .i64 102) := HB14.out.cell 1)
    | fail)
  have rn : w4.rangeAt w2.heap.size 0 [.int .i64 4, .string (sb m.name), .slice none 0 0] := HB4.out.range 0 _ rfl
  obtain ⟨nb, hnb⟩ : ∃ b, w2.heap.size = b := ⟨_, rfl⟩
  rw [hnb] at rn ⊢
  have k0 : w4.cell? ⟨w.heap.size, 19, none⟩ = some (vm) := HB14.out.cell 19
  have hold : Facts.hold [(0, fun w' => w'.rangeAt nb 0 [.int .i64 4, .string (sb m.name), .slice none 0 0]), (2, fun w' => w'.cell? ⟨w.heap.size, 19, none⟩ = some (vm))] w4.drew := Facts.cons_hold rn (Facts.cons_hold k0 (Facts.nil_hold _))
  refine wpD_region hold (by kernel_rfl) 6 rfl ?_
  (refine wpD_take 0 _ rfl (by kernel_rfl) (by kernel_rfl) (by kernel_rfl) (fun _ _ _ h => h) List.mem_cons_self (by rfl) (exec_load _ _ rfl nb 0 rfl _ _ rfl rfl infoN) (by assumption) ?_; simp only [Act.put, K.put3])
  (refine wpD_plain 1 (v := ?_) rfl (by kernel_rfl) (by kernel_rfl) (by kernel_rfl) (fun _ _ _ h => h) (by rfl) ?_ (by assumption) ?_; rotate_left; (intro _w; go_simp; try with_reducible rfl); simp only [Act.put, K.put3])
  (refine wpD_take 2 _ rfl (by kernel_rfl) (by kernel_rfl) (by kernel_rfl) (fun _ _ _ h => h) (List.mem_cons_of_mem _ List.mem_cons_self) (by rfl) (v := ?_) ?_ (by assumption) ?_; rotate_left; (intro _w _hw; go_simp; try with_reducible rfl); simp only [Act.put, K.put3])
  clear hold
  refine wpD_only 3 [(0, fun w' => w'.rangeAt nb 0 [.int .i64 4, .string (sb m.name), .slice none 0 0])] rfl (by kernel_rfl) (by kernel_rfl) (by rfl) (fun K3 hK3 => ?_)
  refine wp_call _ _ _ rfl 76 [] rfl (fun vs w => by kernel_rfl) [.int .i64 48, vm, .func (.func 77) #[] #[]] (by rfl) ?_
  refine (wlist_mo 4 48 77 moN (fun w x c => MoC E w x c) E vm m.mods w4.drew ⟨by omega, by omega⟩ (fun _ _ _ _ h hf => h.no hf) (fun _ _ _ h => h.one) (H.out.mods.noM (HF4.out.trans' (Fr.refl No _).drew)) HBL.out (fun vs w => by kernel_rfl) (fun x hx c wv hc _ => wmod_any E x c wv hc (HBX.out x hx))).mono ?_
  rintro e w1c ⟨ds3, rfl, hnd3, f1⟩
  have hf1 : Fr No w4 w1c := (Fr.refl No w4).drew.trans' f1
  refine ⟨_, rfl, hK3 _ _ (Facts.cons_hold (hf1.range rn id) (Facts.nil_hold _)) ?_⟩
  have k1_0 := hf1.range rn id
  have HF1 := hid (HF4.out.trans' hf1)
  have HG1 := hid hf1
  obtain ⟨d3_0, d3_1, d3_2, rfl⟩ : ∃ a b c, ds3 = [a, b, c] := by
    have := hnd3.len
    match ds3, this with
    | [a, b, c], _ => exact ⟨a, b, c, rfl⟩
  have HM1_m3 := hid (since_le (N' := w4.heap.size) hnd3 (Fr.refl No w4).drew.size)
  clear hnd3
  clear hK3 K3 f1 hf1 rn k0
  simp only [Act.put, K.put3]
  have HQ_m3 : Hid (NdAt 5 (fun k => w4.heap.size ≤ k ∧ k ≠ w1c.heap.size) w1c _ _) := hid (NdAt.mono (fun k hk hs => ⟨hs, by omega⟩) HM1_m3.out)
  refine wpD_only 4 [] rfl (by kernel_rfl) (by kernel_rfl) (by rfl) (fun K4 hK4 => ?_)
  refine wp_buildRun 42 44 2 [(0, _), (1, _)] rfl [.int .i64 4, .string (sb m.name), .slice none 0 0, d3_0, d3_1, d3_2] (run_buildAll 42 44 [.agg #[.int .i64 4, .string (sb m.name), .slice none 0 0], .agg #[d3_0, d3_1, d3_2]] ic _ Try.underlying42 IC.out ZC.out (by rw [SC.out]; decide) (by rw [SC.out]; show 2 * 3 ≤ 16777216; decide) (by show 0 < 2; decide) (by rw [SC.out]; intro u hu; simp at hu; rcases hu with rfl | rfl <;> rfl) _) ?_
  intro w2c HB2 F2 HS2
  have hf2 := F2.out
  refine hK4 _ _ (Facts.nil_hold _) ?_
  have HL2 := hid HG1.out.size
  have HM2_m3 := hid (HQ_m3.out.no hf2)
  have HF2 := hid (HF1.out.trans' hf2)
  have HG2 := hid (HG1.out.trans' hf2)
  have hX2 := HB2
  clear hK4 K4 F2 hf2 HS2 HB2 k1_0 HQ_m3 HG1 HF1
  simp only [Act.put, K.put3]
  have HROW := hid (KR.new (m := 8) (base := w4.heap.size) (acc := [txN m.name, .mk 48 [] (m.mods.map moN)]) (L := [[.int .i64 4, .string (sb m.name), .slice none 0 0], [d3_0, d3_1, d3_2]]) (N := 0) hX2.out HL2.out rfl (by intro c hc; simp at hc; rcases hc with rfl | rfl <;> rfl) (by show 2 ≤ maxLen; unfold maxLen; omega) (fun j y c hy hc => by
    match j, hy, hc with
    | 0, hy, hc => cases hy; cases hc; exact leaf_any 7 _ _ 4 m.name ⟨by omega, by omega⟩ H.out.texts.1
    | 1, hy, hc => cases hy; cases hc; exact nd_le HM2_m3.out (by omega)
    | j + 2, hy, hc => simp at hc))
  have hold : Facts.hold [] w2c := Facts.nil_hold _
  (refine wpD_plain 5 (v := ?_) rfl (by kernel_rfl) (by kernel_rfl) (by kernel_rfl) (fun _ _ _ h => h) (by rfl) ?_ (by assumption) ?_; rotate_left; (intro _w; go_simp; try with_reducible rfl); simp only [Act.put, K.put3])
  clear hold
  refine wpD_done (by kernel_rfl) ?_ _
  go_wp2_with fail
  go_ret
  exact ⟨_, _, w4.heap.size, rfl, HF4.out.size, HROW.out, HF2.out⟩
set_option maxHeartbeats 8000000 in
theorem wpieces_list104 (M : Nat) (E : Nat → Prop) (m : Msg) (vk va vw vl vm : Value) (w : World) (h : MsgC M E w m vk va vw vl vm) (hop : m.op = 104) (hbl : m.list.length ≤ 1048576) (hbx : ∀ x ∈ m.list, x.values.length ≤ 1048576) : Calls Try.prog 47 #[.agg (mcs m vk va vw vl vm).toArray] w (RowR 8 ([txN m.name, .mk 48 [] (m.list.map atN)]) w) := by
  have H := hid h
  have HBL := hid hbl; have HBX := hid hbx
  clear hbl hbx
  have e : mcs m vk va vw vl vm = [.int .i64 m.id, .int .i64 104, .int .i64 m.ver, .string (sb m.name), .string (sb m.pw), .int .i64 m.scope, .int .i64 m.deref, .int .i64 m.size, .int .i64 m.time, .bool m.typesOnly, .int .i64 m.filter.kind, vk, .string (sb m.filter.type), .string (sb m.filter.value), .string (sb m.filter.first), va, .string (sb m.filter.last), vw, vl, vm, .string (sb m.rdn), .bool m.dropOld, .bool m.moves, .string (sb m.sup), .string (sb m.type), .string (sb m.value), .int .i64 m.target, .int .i64 m.code, .string (sb m.matched), .string (sb m.text)] := by unfold mcs; rw [hop]
  rw [e]
  clear e hop h
  obtain ⟨ic, hic, hzc, hsc, hbc⟩ := Go.info_parts infozN
  have IC := hid hic; have ZC := hid hzc; have SC := hid hsc; have BC := hid hbc
  clear hic hzc hsc hbc
  go_enter Try.func47, Try.ntmps47
  go_wp2_with (first
    | ((with_reducible refine K.atO (.box 29 _) ?_); refine wpL_box rfl _ _ rfl _ rfl [.int .i64 m.id, .int .i64 104, .int .i64 m.ver, .string (sb m.name), .string (sb m.pw), .int .i64 m.scope, .int .i64 m.deref, .int .i64 m.size, .int .i64 m.time, .bool m.typesOnly, .int .i64 m.filter.kind, vk, .string (sb m.filter.type), .string (sb m.filter.value), .string (sb m.filter.first), va, .string (sb m.filter.last), vw, vl, vm, .string (sb m.rdn), .bool m.dropOld, .bool m.moves, .string (sb m.sup), .string (sb m.type), .string (sb m.value), .int .i64 m.target, .int .i64 m.code, .string (sb m.matched), .string (sb m.text)] rfl ?_; intro w1 HB1 F1 HS1; have c3 : w1.cell? ⟨w.heap.size, 3, none⟩ = some (.string (sb m.name)) := HB1.out.cell 3)
    | fail)
  refine (wtext_any (sb m.name) w1).mono ?_
  rintro e w2 ⟨rfl, f2⟩
  have HF2 := hid (F1.out.trans' f2); have HF12 := hid f2
  have c1 : w2.cell? ⟨w.heap.size, 1, none⟩ = some (.int .i64 104) := (HB1.out.fr f2 id).cell 1
  clear c3 f2
  go_wp2_with (first
    | ((with_reducible refine K.atO (.alloc 44) ?_); refine wpL_alloc rfl _ rfl _ zeroN [.int .i64 0, .string ⟨#[]⟩, .slice none 0 0] rfl ?_; intro w3 HB3 F3 HS3; have HF3 := hid (HF2.out.trans' F3.out); have HF13 := hid (HF12.out.trans' F3.out))
    | ((with_reducible refine K.atO (.store 44 _ _) ?_); refine wpL_storeV rfl _ _ _ rfl w2.heap.size 0 (.agg #[.int .i64 4, .string (sb m.name), .slice none 0 0]) [.int .i64 4, .string (sb m.name), .slice none 0 0] rfl rfl rfl _ _ HB3.out (by simp) infoN (by intro u hu; simp at hu; rcases hu with rfl | rfl | rfl <;> rfl) ?_; intro w4 HB4 F4 HS4; have HB14 := hid ((HB1.out.fr HF13.out id).fr F4.out (fun e => by have e : w.heap.size = w2.heap.size := e; have := HS1.out; have := HF12.out.size; omega)); have HF4 := hid (HF3.out.trans F4.out fun k e => .inr (by have e : k = w2.heap.size := e; have := HF2.out.size; omega)); have c1 : w4.cell? ⟨w.heap.size, 1, none⟩ = some (.int .i64 104) := HB14.out.cell 1)
    | fail)
  have rn : w4.rangeAt w2.heap.size 0 [.int .i64 4, .string (sb m.name), .slice none 0 0] := HB4.out.range 0 _ rfl
  obtain ⟨nb, hnb⟩ : ∃ b, w2.heap.size = b := ⟨_, rfl⟩
  rw [hnb] at rn ⊢
  have k0 : w4.cell? ⟨w.heap.size, 18, none⟩ = some (vl) := HB14.out.cell 18
  have hold : Facts.hold [(0, fun w' => w'.rangeAt nb 0 [.int .i64 4, .string (sb m.name), .slice none 0 0]), (2, fun w' => w'.cell? ⟨w.heap.size, 18, none⟩ = some (vl))] w4.drew := Facts.cons_hold rn (Facts.cons_hold k0 (Facts.nil_hold _))
  refine wpD_region hold (by kernel_rfl) 6 rfl ?_
  (refine wpD_take 0 _ rfl (by kernel_rfl) (by kernel_rfl) (by kernel_rfl) (fun _ _ _ h => h) List.mem_cons_self (by rfl) (exec_load _ _ rfl nb 0 rfl _ _ rfl rfl infoN) (by assumption) ?_; simp only [Act.put, K.put3])
  (refine wpD_plain 1 (v := ?_) rfl (by kernel_rfl) (by kernel_rfl) (by kernel_rfl) (fun _ _ _ h => h) (by rfl) ?_ (by assumption) ?_; rotate_left; (intro _w; go_simp; try with_reducible rfl); simp only [Act.put, K.put3])
  (refine wpD_take 2 _ rfl (by kernel_rfl) (by kernel_rfl) (by kernel_rfl) (fun _ _ _ h => h) (List.mem_cons_of_mem _ List.mem_cons_self) (by rfl) (v := ?_) ?_ (by assumption) ?_; rotate_left; (intro _w _hw; go_simp; try with_reducible rfl); simp only [Act.put, K.put3])
  clear hold
  refine wpD_only 3 [(0, fun w' => w'.rangeAt nb 0 [.int .i64 4, .string (sb m.name), .slice none 0 0])] rfl (by kernel_rfl) (by kernel_rfl) (by rfl) (fun K3 hK3 => ?_)
  refine wp_call _ _ _ rfl 78 [] rfl (fun vs w => by kernel_rfl) [.int .i64 48, vl, .func (.func 79) #[] #[]] (by rfl) ?_
  refine (wlist_at 3 48 79 atN (fun w x c => AtC E w x c) E vl m.list w4.drew ⟨by omega, by omega⟩ (fun _ _ _ _ h hf => h.no hf) (fun _ _ _ h => h.one) (H.out.list.noA (HF4.out.trans' (Fr.refl No _).drew)) HBL.out (fun vs w => by kernel_rfl) (fun x hx c wv hc _ => wattr_any E x c wv hc (HBX.out x hx))).mono ?_
  rintro e w1c ⟨ds3, rfl, hnd3, f1⟩
  have hf1 : Fr No w4 w1c := (Fr.refl No w4).drew.trans' f1
  refine ⟨_, rfl, hK3 _ _ (Facts.cons_hold (hf1.range rn id) (Facts.nil_hold _)) ?_⟩
  have k1_0 := hf1.range rn id
  have HF1 := hid (HF4.out.trans' hf1)
  have HG1 := hid hf1
  obtain ⟨d3_0, d3_1, d3_2, rfl⟩ : ∃ a b c, ds3 = [a, b, c] := by
    have := hnd3.len
    match ds3, this with
    | [a, b, c], _ => exact ⟨a, b, c, rfl⟩
  have HM1_m3 := hid (since_le (N' := w4.heap.size) hnd3 (Fr.refl No w4).drew.size)
  clear hnd3
  clear hK3 K3 f1 hf1 rn k0
  simp only [Act.put, K.put3]
  have HQ_m3 : Hid (NdAt 4 (fun k => w4.heap.size ≤ k ∧ k ≠ w1c.heap.size) w1c _ _) := hid (NdAt.mono (fun k hk hs => ⟨hs, by omega⟩) HM1_m3.out)
  refine wpD_only 4 [] rfl (by kernel_rfl) (by kernel_rfl) (by rfl) (fun K4 hK4 => ?_)
  refine wp_buildRun 42 44 2 [(0, _), (1, _)] rfl [.int .i64 4, .string (sb m.name), .slice none 0 0, d3_0, d3_1, d3_2] (run_buildAll 42 44 [.agg #[.int .i64 4, .string (sb m.name), .slice none 0 0], .agg #[d3_0, d3_1, d3_2]] ic _ Try.underlying42 IC.out ZC.out (by rw [SC.out]; decide) (by rw [SC.out]; show 2 * 3 ≤ 16777216; decide) (by show 0 < 2; decide) (by rw [SC.out]; intro u hu; simp at hu; rcases hu with rfl | rfl <;> rfl) _) ?_
  intro w2c HB2 F2 HS2
  have hf2 := F2.out
  refine hK4 _ _ (Facts.nil_hold _) ?_
  have HL2 := hid HG1.out.size
  have HM2_m3 := hid (HQ_m3.out.no hf2)
  have HF2 := hid (HF1.out.trans' hf2)
  have HG2 := hid (HG1.out.trans' hf2)
  have hX2 := HB2
  clear hK4 K4 F2 hf2 HS2 HB2 k1_0 HQ_m3 HG1 HF1
  simp only [Act.put, K.put3]
  have HROW := hid (KR.new (m := 8) (base := w4.heap.size) (acc := [txN m.name, .mk 48 [] (m.list.map atN)]) (L := [[.int .i64 4, .string (sb m.name), .slice none 0 0], [d3_0, d3_1, d3_2]]) (N := 0) hX2.out HL2.out rfl (by intro c hc; simp at hc; rcases hc with rfl | rfl <;> rfl) (by show 2 ≤ maxLen; unfold maxLen; omega) (fun j y c hy hc => by
    match j, hy, hc with
    | 0, hy, hc => cases hy; cases hc; exact leaf_any 7 _ _ 4 m.name ⟨by omega, by omega⟩ H.out.texts.1
    | 1, hy, hc => cases hy; cases hc; exact nd_le HM2_m3.out (by omega)
    | j + 2, hy, hc => simp at hc))
  have hold : Facts.hold [] w2c := Facts.nil_hold _
  (refine wpD_plain 5 (v := ?_) rfl (by kernel_rfl) (by kernel_rfl) (by kernel_rfl) (fun _ _ _ h => h) (by rfl) ?_ (by assumption) ?_; rotate_left; (intro _w; go_simp; try with_reducible rfl); simp only [Act.put, K.put3])
  clear hold
  refine wpD_done (by kernel_rfl) ?_ _
  go_wp2_with fail
  go_ret
  exact ⟨_, _, w4.heap.size, rfl, HF4.out.size, HROW.out, HF2.out⟩
set_option maxHeartbeats 8000000 in
theorem wpieces_list100 (M : Nat) (E : Nat → Prop) (m : Msg) (vk va vw vl vm : Value) (w : World) (h : MsgC M E w m vk va vw vl vm) (hop : m.op = 100) (hbl : m.list.length ≤ 1048576) (hbx : ∀ x ∈ m.list, x.values.length ≤ 1048576) : Calls Try.prog 47 #[.agg (mcs m vk va vw vl vm).toArray] w (RowR 8 ([txN m.name, .mk 48 [] (m.list.map atN)]) w) := by
  have H := hid h
  have HBL := hid hbl; have HBX := hid hbx
  clear hbl hbx
  have e : mcs m vk va vw vl vm = [.int .i64 m.id, .int .i64 100, .int .i64 m.ver, .string (sb m.name), .string (sb m.pw), .int .i64 m.scope, .int .i64 m.deref, .int .i64 m.size, .int .i64 m.time, .bool m.typesOnly, .int .i64 m.filter.kind, vk, .string (sb m.filter.type), .string (sb m.filter.value), .string (sb m.filter.first), va, .string (sb m.filter.last), vw, vl, vm, .string (sb m.rdn), .bool m.dropOld, .bool m.moves, .string (sb m.sup), .string (sb m.type), .string (sb m.value), .int .i64 m.target, .int .i64 m.code, .string (sb m.matched), .string (sb m.text)] := by unfold mcs; rw [hop]
  rw [e]
  clear e hop h
  obtain ⟨ic, hic, hzc, hsc, hbc⟩ := Go.info_parts infozN
  have IC := hid hic; have ZC := hid hzc; have SC := hid hsc; have BC := hid hbc
  clear hic hzc hsc hbc
  go_enter Try.func47, Try.ntmps47
  go_wp2_with (first
    | ((with_reducible refine K.atO (.box 29 _) ?_); refine wpL_box rfl _ _ rfl _ rfl [.int .i64 m.id, .int .i64 100, .int .i64 m.ver, .string (sb m.name), .string (sb m.pw), .int .i64 m.scope, .int .i64 m.deref, .int .i64 m.size, .int .i64 m.time, .bool m.typesOnly, .int .i64 m.filter.kind, vk, .string (sb m.filter.type), .string (sb m.filter.value), .string (sb m.filter.first), va, .string (sb m.filter.last), vw, vl, vm, .string (sb m.rdn), .bool m.dropOld, .bool m.moves, .string (sb m.sup), .string (sb m.type), .string (sb m.value), .int .i64 m.target, .int .i64 m.code, .string (sb m.matched), .string (sb m.text)] rfl ?_; intro w1 HB1 F1 HS1; have c3 : w1.cell? ⟨w.heap.size, 3, none⟩ = some (.string (sb m.name)) := HB1.out.cell 3)
    | fail)
  refine (wtext_any (sb m.name) w1).mono ?_
  rintro e w2 ⟨rfl, f2⟩
  have HF2 := hid (F1.out.trans' f2); have HF12 := hid f2
  have c1 : w2.cell? ⟨w.heap.size, 1, none⟩ = some (.int .i64 100) := (HB1.out.fr f2 id).cell 1
  clear c3 f2
  go_wp2_with (first
    | ((with_reducible refine K.atO (.alloc 44) ?_); refine wpL_alloc rfl _ rfl _ zeroN [.int .i64 0, .string ⟨#[]⟩, .slice none 0 0] rfl ?_; intro w3 HB3 F3 HS3; have HF3 := hid (HF2.out.trans' F3.out); have HF13 := hid (HF12.out.trans' F3.out))
    | ((with_reducible refine K.atO (.store 44 _ _) ?_); refine wpL_storeV rfl _ _ _ rfl w2.heap.size 0 (.agg #[.int .i64 4, .string (sb m.name), .slice none 0 0]) [.int .i64 4, .string (sb m.name), .slice none 0 0] rfl rfl rfl _ _ HB3.out (by simp) infoN (by intro u hu; simp at hu; rcases hu with rfl | rfl | rfl <;> rfl) ?_; intro w4 HB4 F4 HS4; have HB14 := hid ((HB1.out.fr HF13.out id).fr F4.out (fun e => by have e : w.heap.size = w2.heap.size := e; have := HS1.out; have := HF12.out.size; omega)); have HF4 := hid (HF3.out.trans F4.out fun k e => .inr (by have e : k = w2.heap.size := e; have := HF2.out.size; omega)); have c1 : w4.cell? ⟨w.heap.size, 1, none⟩ = some (.int .i64 100) := HB14.out.cell 1)
    | fail)
  have rn : w4.rangeAt w2.heap.size 0 [.int .i64 4, .string (sb m.name), .slice none 0 0] := HB4.out.range 0 _ rfl
  obtain ⟨nb, hnb⟩ : ∃ b, w2.heap.size = b := ⟨_, rfl⟩
  rw [hnb] at rn ⊢
  have k0 : w4.cell? ⟨w.heap.size, 18, none⟩ = some (vl) := HB14.out.cell 18
  have hold : Facts.hold [(0, fun w' => w'.rangeAt nb 0 [.int .i64 4, .string (sb m.name), .slice none 0 0]), (2, fun w' => w'.cell? ⟨w.heap.size, 18, none⟩ = some (vl))] w4.drew := Facts.cons_hold rn (Facts.cons_hold k0 (Facts.nil_hold _))
  refine wpD_region hold (by kernel_rfl) 6 rfl ?_
  (refine wpD_take 0 _ rfl (by kernel_rfl) (by kernel_rfl) (by kernel_rfl) (fun _ _ _ h => h) List.mem_cons_self (by rfl) (exec_load _ _ rfl nb 0 rfl _ _ rfl rfl infoN) (by assumption) ?_; simp only [Act.put, K.put3])
  (refine wpD_plain 1 (v := ?_) rfl (by kernel_rfl) (by kernel_rfl) (by kernel_rfl) (fun _ _ _ h => h) (by rfl) ?_ (by assumption) ?_; rotate_left; (intro _w; go_simp; try with_reducible rfl); simp only [Act.put, K.put3])
  (refine wpD_take 2 _ rfl (by kernel_rfl) (by kernel_rfl) (by kernel_rfl) (fun _ _ _ h => h) (List.mem_cons_of_mem _ List.mem_cons_self) (by rfl) (v := ?_) ?_ (by assumption) ?_; rotate_left; (intro _w _hw; go_simp; try with_reducible rfl); simp only [Act.put, K.put3])
  clear hold
  refine wpD_only 3 [(0, fun w' => w'.rangeAt nb 0 [.int .i64 4, .string (sb m.name), .slice none 0 0])] rfl (by kernel_rfl) (by kernel_rfl) (by rfl) (fun K3 hK3 => ?_)
  refine wp_call _ _ _ rfl 78 [] rfl (fun vs w => by kernel_rfl) [.int .i64 48, vl, .func (.func 79) #[] #[]] (by rfl) ?_
  refine (wlist_at 3 48 79 atN (fun w x c => AtC E w x c) E vl m.list w4.drew ⟨by omega, by omega⟩ (fun _ _ _ _ h hf => h.no hf) (fun _ _ _ h => h.one) (H.out.list.noA (HF4.out.trans' (Fr.refl No _).drew)) HBL.out (fun vs w => by kernel_rfl) (fun x hx c wv hc _ => wattr_any E x c wv hc (HBX.out x hx))).mono ?_
  rintro e w1c ⟨ds3, rfl, hnd3, f1⟩
  have hf1 : Fr No w4 w1c := (Fr.refl No w4).drew.trans' f1
  refine ⟨_, rfl, hK3 _ _ (Facts.cons_hold (hf1.range rn id) (Facts.nil_hold _)) ?_⟩
  have k1_0 := hf1.range rn id
  have HF1 := hid (HF4.out.trans' hf1)
  have HG1 := hid hf1
  obtain ⟨d3_0, d3_1, d3_2, rfl⟩ : ∃ a b c, ds3 = [a, b, c] := by
    have := hnd3.len
    match ds3, this with
    | [a, b, c], _ => exact ⟨a, b, c, rfl⟩
  have HM1_m3 := hid (since_le (N' := w4.heap.size) hnd3 (Fr.refl No w4).drew.size)
  clear hnd3
  clear hK3 K3 f1 hf1 rn k0
  simp only [Act.put, K.put3]
  have HQ_m3 : Hid (NdAt 4 (fun k => w4.heap.size ≤ k ∧ k ≠ w1c.heap.size) w1c _ _) := hid (NdAt.mono (fun k hk hs => ⟨hs, by omega⟩) HM1_m3.out)
  refine wpD_only 4 [] rfl (by kernel_rfl) (by kernel_rfl) (by rfl) (fun K4 hK4 => ?_)
  refine wp_buildRun 42 44 2 [(0, _), (1, _)] rfl [.int .i64 4, .string (sb m.name), .slice none 0 0, d3_0, d3_1, d3_2] (run_buildAll 42 44 [.agg #[.int .i64 4, .string (sb m.name), .slice none 0 0], .agg #[d3_0, d3_1, d3_2]] ic _ Try.underlying42 IC.out ZC.out (by rw [SC.out]; decide) (by rw [SC.out]; show 2 * 3 ≤ 16777216; decide) (by show 0 < 2; decide) (by rw [SC.out]; intro u hu; simp at hu; rcases hu with rfl | rfl <;> rfl) _) ?_
  intro w2c HB2 F2 HS2
  have hf2 := F2.out
  refine hK4 _ _ (Facts.nil_hold _) ?_
  have HL2 := hid HG1.out.size
  have HM2_m3 := hid (HQ_m3.out.no hf2)
  have HF2 := hid (HF1.out.trans' hf2)
  have HG2 := hid (HG1.out.trans' hf2)
  have hX2 := HB2
  clear hK4 K4 F2 hf2 HS2 HB2 k1_0 HQ_m3 HG1 HF1
  simp only [Act.put, K.put3]
  have HROW := hid (KR.new (m := 8) (base := w4.heap.size) (acc := [txN m.name, .mk 48 [] (m.list.map atN)]) (L := [[.int .i64 4, .string (sb m.name), .slice none 0 0], [d3_0, d3_1, d3_2]]) (N := 0) hX2.out HL2.out rfl (by intro c hc; simp at hc; rcases hc with rfl | rfl <;> rfl) (by show 2 ≤ maxLen; unfold maxLen; omega) (fun j y c hy hc => by
    match j, hy, hc with
    | 0, hy, hc => cases hy; cases hc; exact leaf_any 7 _ _ 4 m.name ⟨by omega, by omega⟩ H.out.texts.1
    | 1, hy, hc => cases hy; cases hc; exact nd_le HM2_m3.out (by omega)
    | j + 2, hy, hc => simp at hc))
  have hold : Facts.hold [] w2c := Facts.nil_hold _
  (refine wpD_plain 5 (v := ?_) rfl (by kernel_rfl) (by kernel_rfl) (by kernel_rfl) (fun _ _ _ h => h) (by rfl) ?_ (by assumption) ?_; rotate_left; (intro _w; go_simp; try with_reducible rfl); simp only [Act.put, K.put3])
  clear hold
  refine wpD_done (by kernel_rfl) ?_ _
  go_wp2_with fail
  go_ret
  exact ⟨_, _, w4.heap.size, rfl, HF4.out.size, HROW.out, HF2.out⟩
set_option maxHeartbeats 8000000 in
theorem wpieces_move_false (M : Nat) (E : Nat → Prop) (m : Msg) (vk va vw vl vm : Value) (w : World) (h : MsgC M E w m vk va vw vl vm) (hop : m.op = 108) (hmv : m.moves = false) : Calls Try.prog 47 #[.agg (mcs m vk va vw vl vm).toArray] w (RowR 8 ([txN m.name, txN m.rdn, trN m.dropOld]) w) := by
  have H := hid h
  have HMV := hid hmv
  clear hmv
  have e : mcs m vk va vw vl vm = [.int .i64 m.id, .int .i64 108, .int .i64 m.ver, .string (sb m.name), .string (sb m.pw), .int .i64 m.scope, .int .i64 m.deref, .int .i64 m.size, .int .i64 m.time, .bool m.typesOnly, .int .i64 m.filter.kind, vk, .string (sb m.filter.type), .string (sb m.filter.value), .string (sb m.filter.first), va, .string (sb m.filter.last), vw, vl, vm, .string (sb m.rdn), .bool m.dropOld, .bool m.moves, .string (sb m.sup), .string (sb m.type), .string (sb m.value), .int .i64 m.target, .int .i64 m.code, .string (sb m.matched), .string (sb m.text)] := by unfold mcs; rw [hop]
  rw [e]
  clear e hop h
  obtain ⟨ic, hic, hzc, hsc, hbc⟩ := Go.info_parts infozN
  have IC := hid hic; have ZC := hid hzc; have SC := hid hsc; have BC := hid hbc
  clear hic hzc hsc hbc
  go_enter Try.func47, Try.ntmps47
  go_wp2_with (first
    | ((with_reducible refine K.atO (.box 29 _) ?_); refine wpL_box rfl _ _ rfl _ rfl [.int .i64 m.id, .int .i64 108, .int .i64 m.ver, .string (sb m.name), .string (sb m.pw), .int .i64 m.scope, .int .i64 m.deref, .int .i64 m.size, .int .i64 m.time, .bool m.typesOnly, .int .i64 m.filter.kind, vk, .string (sb m.filter.type), .string (sb m.filter.value), .string (sb m.filter.first), va, .string (sb m.filter.last), vw, vl, vm, .string (sb m.rdn), .bool m.dropOld, .bool m.moves, .string (sb m.sup), .string (sb m.type), .string (sb m.value), .int .i64 m.target, .int .i64 m.code, .string (sb m.matched), .string (sb m.text)] rfl ?_; intro w1 HB1 F1 HS1; have c3 : w1.cell? ⟨w.heap.size, 3, none⟩ = some (.string (sb m.name)) := HB1.out.cell 3)
    | fail)
  refine (wtext_any (sb m.name) w1).mono ?_
  rintro e w2 ⟨rfl, f2⟩
  have HF2 := hid (F1.out.trans' f2); have HF12 := hid f2
  have c1 : w2.cell? ⟨w.heap.size, 1, none⟩ = some (.int .i64 108) := (HB1.out.fr f2 id).cell 1
  clear c3 f2
  go_wp2_with (first
    | ((with_reducible refine K.atO (.alloc 44) ?_); refine wpL_alloc rfl _ rfl _ zeroN [.int .i64 0, .string ⟨#[]⟩, .slice none 0 0] rfl ?_; intro w3 HB3 F3 HS3; have HF3 := hid (HF2.out.trans' F3.out); have HF13 := hid (HF12.out.trans' F3.out))
    | ((with_reducible refine K.atO (.store 44 _ _) ?_); refine wpL_storeV rfl _ _ _ rfl w2.heap.size 0 (.agg #[.int .i64 4, .string (sb m.name), .slice none 0 0]) [.int .i64 4, .string (sb m.name), .slice none 0 0] rfl rfl rfl _ _ HB3.out (by simp) infoN (by intro u hu; simp at hu; rcases hu with rfl | rfl | rfl <;> rfl) ?_; intro w4 HB4 F4 HS4; have HB14 := hid ((HB1.out.fr HF13.out id).fr F4.out (fun e => by have e : w.heap.size = w2.heap.size := e; have := HS1.out; have := HF12.out.size; omega)); have HF4 := hid (HF3.out.trans F4.out fun k e => .inr (by have e : k = w2.heap.size := e; have := HF2.out.size; omega)); have c1 : w4.cell? ⟨w.heap.size, 1, none⟩ = some (.int .i64 108) := HB14.out.cell 1)
    | fail)
  have rn : w4.rangeAt w2.heap.size 0 [.int .i64 4, .string (sb m.name), .slice none 0 0] := HB4.out.range 0 _ rfl
  obtain ⟨nb, hnb⟩ : ∃ b, w2.heap.size = b := ⟨_, rfl⟩
  rw [hnb] at rn ⊢
  have k0 : w4.cell? ⟨w.heap.size, 20, none⟩ = some (.string (sb m.rdn)) := HB14.out.cell 20
  have k1 : w4.cell? ⟨w.heap.size, 21, none⟩ = some (.bool m.dropOld) := HB14.out.cell 21
  have hold : Facts.hold [(0, fun w' => w'.rangeAt nb 0 [.int .i64 4, .string (sb m.name), .slice none 0 0]), (2, fun w' => w'.cell? ⟨w.heap.size, 20, none⟩ = some (.string (sb m.rdn))), (5, fun w' => w'.cell? ⟨w.heap.size, 21, none⟩ = some (.bool m.dropOld))] w4.drew := Facts.cons_hold rn (Facts.cons_hold k0 (Facts.cons_hold k1 (Facts.nil_hold _)))
  refine wpD_region hold (by kernel_rfl) 9 rfl ?_
  (refine wpD_take 0 _ rfl (by kernel_rfl) (by kernel_rfl) (by kernel_rfl) (fun _ _ _ h => h) List.mem_cons_self (by rfl) (exec_load _ _ rfl nb 0 rfl _ _ rfl rfl infoN) (by assumption) ?_; simp only [Act.put, K.put3])
  (refine wpD_plain 1 (v := ?_) rfl (by kernel_rfl) (by kernel_rfl) (by kernel_rfl) (fun _ _ _ h => h) (by rfl) ?_ (by assumption) ?_; rotate_left; (intro _w; go_simp; try with_reducible rfl); simp only [Act.put, K.put3])
  (refine wpD_take 2 _ rfl (by kernel_rfl) (by kernel_rfl) (by kernel_rfl) (fun _ _ _ h => h) (List.mem_cons_of_mem _ List.mem_cons_self) (by rfl) (v := ?_) ?_ (by assumption) ?_; rotate_left; (intro _w _hw; go_simp; try with_reducible rfl); simp only [Act.put, K.put3])
  (refine wpD_plain 4 (v := ?_) rfl (by kernel_rfl) (by kernel_rfl) (by kernel_rfl) (fun _ _ _ h => h) (by rfl) ?_ (by assumption) ?_; rotate_left; (intro _w; go_simp; try with_reducible rfl); simp only [Act.put, K.put3])
  (refine wpD_take 5 _ rfl (by kernel_rfl) (by kernel_rfl) (by kernel_rfl) (fun _ _ _ h => h) (List.mem_cons_of_mem _ (List.mem_cons_of_mem _ List.mem_cons_self)) (by rfl) (v := ?_) ?_ (by assumption) ?_; rotate_left; (intro _w _hw; go_simp; try with_reducible rfl); simp only [Act.put, K.put3])
  clear hold
  refine wpD_only 3 [(0, fun w' => w'.rangeAt nb 0 [.int .i64 4, .string (sb m.name), .slice none 0 0]), (5, fun w' => w'.cell? ⟨w.heap.size, 21, none⟩ = some (.bool m.dropOld))] rfl (by kernel_rfl) (by kernel_rfl) (by rfl) (fun K3 hK3 => ?_)
  refine wp_call _ _ _ rfl 71 [] rfl (fun vs w => by kernel_rfl) [.string (sb m.rdn)] (by rfl) ?_
  refine (wtext_any (sb m.rdn) w4.drew).mono ?_
  rintro e w1c ⟨rfl, f1⟩
  have hf1 : Fr No w4 w1c := (Fr.refl No w4).drew.trans' f1
  refine ⟨_, rfl, hK3 _ _ (Facts.cons_hold (hf1.range rn id) (Facts.cons_hold (hf1.cell k1 id) (Facts.nil_hold _))) ?_⟩
  have k1_0 := hf1.range rn id
  have k1_5 := hf1.cell k1 id
  have HF1 := hid (HF4.out.trans' hf1)
  have HG1 := hid hf1
  clear hK3 K3 f1 hf1 rn k1 k0
  simp only [Act.put, K.put3]
  refine wpD_only 6 [(0, fun w' => w'.rangeAt nb 0 [.int .i64 4, .string (sb m.name), .slice none 0 0])] rfl (by kernel_rfl) (by kernel_rfl) (by rfl) (fun K6 hK6 => ?_)
  refine wp_call _ _ _ rfl 73 [] rfl (fun vs w => by kernel_rfl) [.bool m.dropOld] (by rfl) ?_
  refine (wtruth_any m.dropOld w1c).mono ?_
  rintro e w2c ⟨rfl, f2⟩
  have hf2 : Fr No w1c w2c := f2
  refine ⟨_, rfl, hK6 _ _ (Facts.cons_hold (hf2.range k1_0 id) (Facts.nil_hold _)) ?_⟩
  have k2_0 := hf2.range k1_0 id
  have HF2 := hid (HF1.out.trans' hf2)
  have HG2 := hid (HG1.out.trans' hf2)
  clear hK6 K6 f2 hf2 k1_0 k1_5 HG1 HF1
  simp only [Act.put, K.put3]
  obtain ⟨tb, htb⟩ : ∃ x : B, (if m.dropOld = true then [255] else [0]) = x := ⟨_, rfl⟩
  rw [htb]
  have HTB := hid htb
  have HTZ : Hid (Sz tb) := hid (by rw [← htb]; show List.length _ ≤ _; split <;> simp)
  clear htb
  refine wpD_only 7 [] rfl (by kernel_rfl) (by kernel_rfl) (by rfl) (fun K7 hK7 => ?_)
  refine wp_buildRun 42 44 3 [(0, _), (1, _), (2, _)] rfl [.int .i64 4, .string (sb m.name), .slice none 0 0, .int .i64 4, .string (sb m.rdn), .slice none 0 0, .int .i64 1, .string (sb tb), .slice none 0 0] (run_buildAll 42 44 [.agg #[.int .i64 4, .string (sb m.name), .slice none 0 0], .agg #[.int .i64 4, .string (sb m.rdn), .slice none 0 0], .agg #[.int .i64 1, .string (sb tb), .slice none 0 0]] ic _ Try.underlying42 IC.out ZC.out (by rw [SC.out]; decide) (by rw [SC.out]; show 3 * 3 ≤ 16777216; decide) (by show 0 < 3; decide) (by rw [SC.out]; intro u hu; simp at hu; rcases hu with rfl | rfl | rfl <;> rfl) _) ?_
  intro w3c HB3 F3 HS3
  have hf3 := F3.out
  refine hK7 _ _ (Facts.nil_hold _) ?_
  have HL3 := hid HG2.out.size
  have HF3 := hid (HF2.out.trans' hf3)
  have HG3 := hid (HG2.out.trans' hf3)
  have hX3 := HB3
  clear hK7 K7 F3 hf3 HS3 HB3 k2_0 HG2 HF2
  simp only [Act.put, K.put3]
  have HROW := hid (KR.new (m := 8) (base := w4.heap.size) (acc := [txN m.name, txN m.rdn, trN m.dropOld]) (L := [[.int .i64 4, .string (sb m.name), .slice none 0 0], [.int .i64 4, .string (sb m.rdn), .slice none 0 0], [.int .i64 1, .string (sb tb), .slice none 0 0]]) (N := 0) hX3.out HL3.out rfl (by intro c hc; simp at hc; rcases hc with rfl | rfl | rfl <;> rfl) (by show 3 ≤ maxLen; unfold maxLen; omega) (fun j y c hy hc => by
    match j, hy, hc with
    | 0, hy, hc => cases hy; cases hc; exact leaf_any 7 _ _ 4 m.name ⟨by omega, by omega⟩ H.out.texts.1
    | 1, hy, hc => cases hy; cases hc; exact leaf_any 7 _ _ 4 m.rdn ⟨by omega, by omega⟩ H.out.texts.2.2.1
    | 2, hy, hc => cases hy; cases hc; exact (by show NdAt _ _ _ (.mk 1 (if m.dropOld = true then [255] else [0]) []) _; rw [HTB.out]; exact leaf_any 7 _ _ 1 tb ⟨by omega, by omega⟩ HTZ.out)
    | j + 3, hy, hc => simp at hc))
  have hold : Facts.hold [] w3c := Facts.nil_hold _
  (refine wpD_plain 8 (v := ?_) rfl (by kernel_rfl) (by kernel_rfl) (by kernel_rfl) (fun _ _ _ h => h) (by rfl) ?_ (by assumption) ?_; rotate_left; (intro _w; go_simp; try with_reducible rfl); simp only [Act.put, K.put3])
  clear hold
  refine wpD_done (by kernel_rfl) ?_ _
  have HGS : Hid (w4.heap.size ≤ w3c.heap.size) := hid HG3.out.size
  have HLB : Hid (w.heap.size ≤ w4.heap.size) := hid HF4.out.size
  have HB14' := hid (HB14.out.fr HG3.out id)
  have c22 : w3c.cell? ⟨w.heap.size, 22, none⟩ = some (.bool m.moves) := HB14'.out.cell 22
  have c23 : w3c.cell? ⟨w.heap.size, 23, none⟩ = some (.string (sb m.sup)) := HB14'.out.cell 23
  rw [HMV.out] at c22
  go_wp2_with fail
  go_ret
  exact ⟨_, _, w4.heap.size, rfl, HLB.out, HROW.out, HF3.out⟩
set_option maxHeartbeats 8000000 in
theorem wpieces_move_true (M : Nat) (E : Nat → Prop) (m : Msg) (vk va vw vl vm : Value) (w : World) (h : MsgC M E w m vk va vw vl vm) (hop : m.op = 108) (hmv : m.moves = true) : Calls Try.prog 47 #[.agg (mcs m vk va vw vl vm).toArray] w (RowR 8 ([txN m.name, txN m.rdn, trN m.dropOld] ++ [.mk 128 m.sup []]) w) := by
  have H := hid h
  have HMV := hid hmv
  clear hmv
  have e : mcs m vk va vw vl vm = [.int .i64 m.id, .int .i64 108, .int .i64 m.ver, .string (sb m.name), .string (sb m.pw), .int .i64 m.scope, .int .i64 m.deref, .int .i64 m.size, .int .i64 m.time, .bool m.typesOnly, .int .i64 m.filter.kind, vk, .string (sb m.filter.type), .string (sb m.filter.value), .string (sb m.filter.first), va, .string (sb m.filter.last), vw, vl, vm, .string (sb m.rdn), .bool m.dropOld, .bool m.moves, .string (sb m.sup), .string (sb m.type), .string (sb m.value), .int .i64 m.target, .int .i64 m.code, .string (sb m.matched), .string (sb m.text)] := by unfold mcs; rw [hop]
  rw [e]
  clear e hop h
  obtain ⟨ic, hic, hzc, hsc, hbc⟩ := Go.info_parts infozN
  have IC := hid hic; have ZC := hid hzc; have SC := hid hsc; have BC := hid hbc
  clear hic hzc hsc hbc
  go_enter Try.func47, Try.ntmps47
  go_wp2_with (first
    | ((with_reducible refine K.atO (.box 29 _) ?_); refine wpL_box rfl _ _ rfl _ rfl [.int .i64 m.id, .int .i64 108, .int .i64 m.ver, .string (sb m.name), .string (sb m.pw), .int .i64 m.scope, .int .i64 m.deref, .int .i64 m.size, .int .i64 m.time, .bool m.typesOnly, .int .i64 m.filter.kind, vk, .string (sb m.filter.type), .string (sb m.filter.value), .string (sb m.filter.first), va, .string (sb m.filter.last), vw, vl, vm, .string (sb m.rdn), .bool m.dropOld, .bool m.moves, .string (sb m.sup), .string (sb m.type), .string (sb m.value), .int .i64 m.target, .int .i64 m.code, .string (sb m.matched), .string (sb m.text)] rfl ?_; intro w1 HB1 F1 HS1; have c3 : w1.cell? ⟨w.heap.size, 3, none⟩ = some (.string (sb m.name)) := HB1.out.cell 3)
    | fail)
  refine (wtext_any (sb m.name) w1).mono ?_
  rintro e w2 ⟨rfl, f2⟩
  have HF2 := hid (F1.out.trans' f2); have HF12 := hid f2
  have c1 : w2.cell? ⟨w.heap.size, 1, none⟩ = some (.int .i64 108) := (HB1.out.fr f2 id).cell 1
  clear c3 f2
  go_wp2_with (first
    | ((with_reducible refine K.atO (.alloc 44) ?_); refine wpL_alloc rfl _ rfl _ zeroN [.int .i64 0, .string ⟨#[]⟩, .slice none 0 0] rfl ?_; intro w3 HB3 F3 HS3; have HF3 := hid (HF2.out.trans' F3.out); have HF13 := hid (HF12.out.trans' F3.out))
    | ((with_reducible refine K.atO (.store 44 _ _) ?_); refine wpL_storeV rfl _ _ _ rfl w2.heap.size 0 (.agg #[.int .i64 4, .string (sb m.name), .slice none 0 0]) [.int .i64 4, .string (sb m.name), .slice none 0 0] rfl rfl rfl _ _ HB3.out (by simp) infoN (by intro u hu; simp at hu; rcases hu with rfl | rfl | rfl <;> rfl) ?_; intro w4 HB4 F4 HS4; have HB14 := hid ((HB1.out.fr HF13.out id).fr F4.out (fun e => by have e : w.heap.size = w2.heap.size := e; have := HS1.out; have := HF12.out.size; omega)); have HF4 := hid (HF3.out.trans F4.out fun k e => .inr (by have e : k = w2.heap.size := e; have := HF2.out.size; omega)); have c1 : w4.cell? ⟨w.heap.size, 1, none⟩ = some (.int .i64 108) := HB14.out.cell 1)
    | fail)
  have rn : w4.rangeAt w2.heap.size 0 [.int .i64 4, .string (sb m.name), .slice none 0 0] := HB4.out.range 0 _ rfl
  obtain ⟨nb, hnb⟩ : ∃ b, w2.heap.size = b := ⟨_, rfl⟩
  rw [hnb] at rn ⊢
  have k0 : w4.cell? ⟨w.heap.size, 20, none⟩ = some (.string (sb m.rdn)) := HB14.out.cell 20
  have k1 : w4.cell? ⟨w.heap.size, 21, none⟩ = some (.bool m.dropOld) := HB14.out.cell 21
  have hold : Facts.hold [(0, fun w' => w'.rangeAt nb 0 [.int .i64 4, .string (sb m.name), .slice none 0 0]), (2, fun w' => w'.cell? ⟨w.heap.size, 20, none⟩ = some (.string (sb m.rdn))), (5, fun w' => w'.cell? ⟨w.heap.size, 21, none⟩ = some (.bool m.dropOld))] w4.drew := Facts.cons_hold rn (Facts.cons_hold k0 (Facts.cons_hold k1 (Facts.nil_hold _)))
  refine wpD_region hold (by kernel_rfl) 9 rfl ?_
  (refine wpD_take 0 _ rfl (by kernel_rfl) (by kernel_rfl) (by kernel_rfl) (fun _ _ _ h => h) List.mem_cons_self (by rfl) (exec_load _ _ rfl nb 0 rfl _ _ rfl rfl infoN) (by assumption) ?_; simp only [Act.put, K.put3])
  (refine wpD_plain 1 (v := ?_) rfl (by kernel_rfl) (by kernel_rfl) (by kernel_rfl) (fun _ _ _ h => h) (by rfl) ?_ (by assumption) ?_; rotate_left; (intro _w; go_simp; try with_reducible rfl); simp only [Act.put, K.put3])
  (refine wpD_take 2 _ rfl (by kernel_rfl) (by kernel_rfl) (by kernel_rfl) (fun _ _ _ h => h) (List.mem_cons_of_mem _ List.mem_cons_self) (by rfl) (v := ?_) ?_ (by assumption) ?_; rotate_left; (intro _w _hw; go_simp; try with_reducible rfl); simp only [Act.put, K.put3])
  (refine wpD_plain 4 (v := ?_) rfl (by kernel_rfl) (by kernel_rfl) (by kernel_rfl) (fun _ _ _ h => h) (by rfl) ?_ (by assumption) ?_; rotate_left; (intro _w; go_simp; try with_reducible rfl); simp only [Act.put, K.put3])
  (refine wpD_take 5 _ rfl (by kernel_rfl) (by kernel_rfl) (by kernel_rfl) (fun _ _ _ h => h) (List.mem_cons_of_mem _ (List.mem_cons_of_mem _ List.mem_cons_self)) (by rfl) (v := ?_) ?_ (by assumption) ?_; rotate_left; (intro _w _hw; go_simp; try with_reducible rfl); simp only [Act.put, K.put3])
  clear hold
  refine wpD_only 3 [(0, fun w' => w'.rangeAt nb 0 [.int .i64 4, .string (sb m.name), .slice none 0 0]), (5, fun w' => w'.cell? ⟨w.heap.size, 21, none⟩ = some (.bool m.dropOld))] rfl (by kernel_rfl) (by kernel_rfl) (by rfl) (fun K3 hK3 => ?_)
  refine wp_call _ _ _ rfl 71 [] rfl (fun vs w => by kernel_rfl) [.string (sb m.rdn)] (by rfl) ?_
  refine (wtext_any (sb m.rdn) w4.drew).mono ?_
  rintro e w1c ⟨rfl, f1⟩
  have hf1 : Fr No w4 w1c := (Fr.refl No w4).drew.trans' f1
  refine ⟨_, rfl, hK3 _ _ (Facts.cons_hold (hf1.range rn id) (Facts.cons_hold (hf1.cell k1 id) (Facts.nil_hold _))) ?_⟩
  have k1_0 := hf1.range rn id
  have k1_5 := hf1.cell k1 id
  have HF1 := hid (HF4.out.trans' hf1)
  have HG1 := hid hf1
  clear hK3 K3 f1 hf1 rn k1 k0
  simp only [Act.put, K.put3]
  refine wpD_only 6 [(0, fun w' => w'.rangeAt nb 0 [.int .i64 4, .string (sb m.name), .slice none 0 0])] rfl (by kernel_rfl) (by kernel_rfl) (by rfl) (fun K6 hK6 => ?_)
  refine wp_call _ _ _ rfl 73 [] rfl (fun vs w => by kernel_rfl) [.bool m.dropOld] (by rfl) ?_
  refine (wtruth_any m.dropOld w1c).mono ?_
  rintro e w2c ⟨rfl, f2⟩
  have hf2 : Fr No w1c w2c := f2
  refine ⟨_, rfl, hK6 _ _ (Facts.cons_hold (hf2.range k1_0 id) (Facts.nil_hold _)) ?_⟩
  have k2_0 := hf2.range k1_0 id
  have HF2 := hid (HF1.out.trans' hf2)
  have HG2 := hid (HG1.out.trans' hf2)
  clear hK6 K6 f2 hf2 k1_0 k1_5 HG1 HF1
  simp only [Act.put, K.put3]
  obtain ⟨tb, htb⟩ : ∃ x : B, (if m.dropOld = true then [255] else [0]) = x := ⟨_, rfl⟩
  rw [htb]
  have HTB := hid htb
  have HTZ : Hid (Sz tb) := hid (by rw [← htb]; show List.length _ ≤ _; split <;> simp)
  clear htb
  refine wpD_only 7 [] rfl (by kernel_rfl) (by kernel_rfl) (by rfl) (fun K7 hK7 => ?_)
  refine wp_buildRun 42 44 3 [(0, _), (1, _), (2, _)] rfl [.int .i64 4, .string (sb m.name), .slice none 0 0, .int .i64 4, .string (sb m.rdn), .slice none 0 0, .int .i64 1, .string (sb tb), .slice none 0 0] (run_buildAll 42 44 [.agg #[.int .i64 4, .string (sb m.name), .slice none 0 0], .agg #[.int .i64 4, .string (sb m.rdn), .slice none 0 0], .agg #[.int .i64 1, .string (sb tb), .slice none 0 0]] ic _ Try.underlying42 IC.out ZC.out (by rw [SC.out]; decide) (by rw [SC.out]; show 3 * 3 ≤ 16777216; decide) (by show 0 < 3; decide) (by rw [SC.out]; intro u hu; simp at hu; rcases hu with rfl | rfl | rfl <;> rfl) _) ?_
  intro w3c HB3 F3 HS3
  have hf3 := F3.out
  refine hK7 _ _ (Facts.nil_hold _) ?_
  have HL3 := hid HG2.out.size
  have HF3 := hid (HF2.out.trans' hf3)
  have HG3 := hid (HG2.out.trans' hf3)
  have hX3 := HB3
  clear hK7 K7 F3 hf3 HS3 HB3 k2_0 HG2 HF2
  simp only [Act.put, K.put3]
  have HROW := hid (KR.new (m := 8) (base := w4.heap.size) (acc := [txN m.name, txN m.rdn, trN m.dropOld]) (L := [[.int .i64 4, .string (sb m.name), .slice none 0 0], [.int .i64 4, .string (sb m.rdn), .slice none 0 0], [.int .i64 1, .string (sb tb), .slice none 0 0]]) (N := 0) hX3.out HL3.out rfl (by intro c hc; simp at hc; rcases hc with rfl | rfl | rfl <;> rfl) (by show 3 ≤ maxLen; unfold maxLen; omega) (fun j y c hy hc => by
    match j, hy, hc with
    | 0, hy, hc => cases hy; cases hc; exact leaf_any 7 _ _ 4 m.name ⟨by omega, by omega⟩ H.out.texts.1
    | 1, hy, hc => cases hy; cases hc; exact leaf_any 7 _ _ 4 m.rdn ⟨by omega, by omega⟩ H.out.texts.2.2.1
    | 2, hy, hc => cases hy; cases hc; exact (by show NdAt _ _ _ (.mk 1 (if m.dropOld = true then [255] else [0]) []) _; rw [HTB.out]; exact leaf_any 7 _ _ 1 tb ⟨by omega, by omega⟩ HTZ.out)
    | j + 3, hy, hc => simp at hc))
  have hold : Facts.hold [] w3c := Facts.nil_hold _
  (refine wpD_plain 8 (v := ?_) rfl (by kernel_rfl) (by kernel_rfl) (by kernel_rfl) (fun _ _ _ h => h) (by rfl) ?_ (by assumption) ?_; rotate_left; (intro _w; go_simp; try with_reducible rfl); simp only [Act.put, K.put3])
  clear hold
  refine wpD_done (by kernel_rfl) ?_ _
  have HGS : Hid (w4.heap.size ≤ w3c.heap.size) := hid HG3.out.size
  have HLB : Hid (w.heap.size ≤ w4.heap.size) := hid HF4.out.size
  have HB14' := hid (HB14.out.fr HG3.out id)
  have c22 : w3c.cell? ⟨w.heap.size, 22, none⟩ = some (.bool m.moves) := HB14'.out.cell 22
  have c23 : w3c.cell? ⟨w.heap.size, 23, none⟩ = some (.string (sb m.sup)) := HB14'.out.cell 23
  rw [HMV.out] at c22
  go_wp2_with fail
  refine (wleaf_any 128 (sb m.sup) w3c).mono ?_
  rintro e p1 ⟨rfl, pf⟩
  have HRp := hid (HROW.out.no pf)
  have HFp := hid (HF3.out.trans' pf)
  have HBSp : Hid (w4.heap.size ≤ p1.heap.size) := hid (Nat.le_trans HGS.out pf.size)
  clear pf
  go_wp2_with (first
    | ((with_reducible refine K.atO (.buildSlice 42 _ _) ?_); refine wpL_buildOne rfl _ 44 _ rfl ic _ Try.underlying42 IC.out ZC.out (by rw [SC.out]; decide) (by rw [SC.out]; decide) (.agg #[.int .i64 128, .string (sb m.sup), .slice none 0 0]) [.int .i64 128, .string (sb m.sup), .slice none 0 0] rfl rfl (by rw [SC.out]; rfl) ?_; intro p2 HBp FBp HSBp)
    | ((with_reducible refine K.atO (.call { callee := .builtin .append, args := _, argTypes := _ }) ?_); refine wpL_append rfl _ _ 42 rfl (w4.heap.size) 44 ic _ 3 48 Try.underlying42 IC.out ZC.out SC.out BC.out rfl (by decide) (Value.slice (some ⟨w2c.heap.size, 0, none⟩) 3 3) 3 _ rfl (HRp.out.no FBp.out).r (some ⟨p1.heap.size, 0, none⟩) 1 _ [.int .i64 128, .string (sb m.sup), .slice none 0 0] rfl rfl (.inr ⟨_, rfl, HBp.out.news⟩) (by intro u hu; simp at hu; rcases hu with rfl | rfl | rfl <;> rfl) (by unfold maxLen; omega) (by omega) (Nat.le_trans HBSp.out FBp.out.size) ?_; intro pa pc p3 HOp HGp HAp; refine Hid.out ?_)
    | fail)
  have HFRp : Hid (Fr (fun k => (Value.slice (some ⟨w2c.heap.size, 0, none⟩) 3 3).ownBlock = some k ∨ (Value.slice pa (3 + 1) pc).ownBlock = some k) p2 p3) := hid ((frown HGp.out).mono fun k hk => .inl hk)
  have HLWp : Hid (∀ k, ((Value.slice (some ⟨w2c.heap.size, 0, none⟩) 3 3).ownBlock = some k ∨ (Value.slice pa (3 + 1) pc).ownBlock = some k) → w4.heap.size ≤ k) := hid (fun k hk => by
    rcases hk with h | h
    · exact own_low HRp.out.r k h
    · exact own_low HOp.out k h)
  have HKp := hid ((HRp.out.no FBp.out).step (N := p2.heap.size) (n := Nd.mk 128 m.sup []) (cs := [.int .i64 128, .string (sb m.sup), .slice none 0 0]) (leaf_any _ _ _ 128 _ ⟨by omega, by omega⟩ H.out.texts.2.2.2.1) (Nat.le_trans HBSp.out FBp.out.size) (fun g hg => (own_ge (HRp.out.no FBp.out).r g hg).2) HOp.out HFRp.out (or_own HAp.out))
  have HFKp : Hid (Fr No w p3) := hid ((HFp.out.trans' FBp.out).trans HFRp.out fun k hk => .inr (by have h1 := HLWp.out k hk; have h2 := HLB.out; omega))
  refine hid ?_
  go_wp2_with fail
  go_ret
  exact ⟨_, _, w4.heap.size, rfl, HLB.out, HKp.out, HFKp.out⟩
set_option maxHeartbeats 8000000 in
theorem wpieces_compare (M : Nat) (E : Nat → Prop) (m : Msg) (vk va vw vl vm : Value) (w : World) (h : MsgC M E w m vk va vw vl vm) (hop : m.op = 110)  : Calls Try.prog 47 #[.agg (mcs m vk va vw vl vm).toArray] w (RowR 8 ([txN m.name, .mk 48 [] [txN m.type, txN m.value]]) w) := by
  have H := hid h
  have e : mcs m vk va vw vl vm = [.int .i64 m.id, .int .i64 110, .int .i64 m.ver, .string (sb m.name), .string (sb m.pw), .int .i64 m.scope, .int .i64 m.deref, .int .i64 m.size, .int .i64 m.time, .bool m.typesOnly, .int .i64 m.filter.kind, vk, .string (sb m.filter.type), .string (sb m.filter.value), .string (sb m.filter.first), va, .string (sb m.filter.last), vw, vl, vm, .string (sb m.rdn), .bool m.dropOld, .bool m.moves, .string (sb m.sup), .string (sb m.type), .string (sb m.value), .int .i64 m.target, .int .i64 m.code, .string (sb m.matched), .string (sb m.text)] := by unfold mcs; rw [hop]
  rw [e]
  clear e hop h
  obtain ⟨ic, hic, hzc, hsc, hbc⟩ := Go.info_parts infozN
  have IC := hid hic; have ZC := hid hzc; have SC := hid hsc; have BC := hid hbc
  clear hic hzc hsc hbc
  go_enter Try.func47, Try.ntmps47
  go_wp2_with (first
    | ((with_reducible refine K.atO (.box 29 _) ?_); refine wpL_box rfl _ _ rfl _ rfl [.int .i64 m.id, .int .i64 110, .int .i64 m.ver, .string (sb m.name), .string (sb m.pw), .int .i64 m.scope, .int .i64 m.deref, .int .i64 m.size, .int .i64 m.time, .bool m.typesOnly, .int .i64 m.filter.kind, vk, .string (sb m.filter.type), .string (sb m.filter.value), .string (sb m.filter.first), va, .string (sb m.filter.last), vw, vl, vm, .string (sb m.rdn), .bool m.dropOld, .bool m.moves, .string (sb m.sup), .string (sb m.type), .string (sb m.value), .int .i64 m.target, .int .i64 m.code, .string (sb m.matched), .string (sb m.text)] rfl ?_; intro w1 HB1 F1 HS1; have c3 : w1.cell? ⟨w.heap.size, 3, none⟩ = some (.string (sb m.name)) := HB1.out.cell 3)
    | fail)
  refine (wtext_any (sb m.name) w1).mono ?_
  rintro e w2 ⟨rfl, f2⟩
  have HF2 := hid (F1.out.trans' f2); have HF12 := hid f2
  have c1 : w2.cell? ⟨w.heap.size, 1, none⟩ = some (.int .i64 110) := (HB1.out.fr f2 id).cell 1
  clear c3 f2
  go_wp2_with (first
    | ((with_reducible refine K.atO (.alloc 44) ?_); refine wpL_alloc rfl _ rfl _ zeroN [.int .i64 0, .string ⟨#[]⟩, .slice none 0 0] rfl ?_; intro w3 HB3 F3 HS3; have HF3 := hid (HF2.out.trans' F3.out); have HF13 := hid (HF12.out.trans' F3.out))
    | ((with_reducible refine K.atO (.store 44 _ _) ?_); refine wpL_storeV rfl _ _ _ rfl w2.heap.size 0 (.agg #[.int .i64 4, .string (sb m.name), .slice none 0 0]) [.int .i64 4, .string (sb m.name), .slice none 0 0] rfl rfl rfl _ _ HB3.out (by simp) infoN (by intro u hu; simp at hu; rcases hu with rfl | rfl | rfl <;> rfl) ?_; intro w4 HB4 F4 HS4; have HB14 := hid ((HB1.out.fr HF13.out id).fr F4.out (fun e => by have e : w.heap.size = w2.heap.size := e; have := HS1.out; have := HF12.out.size; omega)); have HF4 := hid (HF3.out.trans F4.out fun k e => .inr (by have e : k = w2.heap.size := e; have := HF2.out.size; omega)); have c1 : w4.cell? ⟨w.heap.size, 1, none⟩ = some (.int .i64 110) := HB14.out.cell 1)
    | fail)
  have rn : w4.rangeAt w2.heap.size 0 [.int .i64 4, .string (sb m.name), .slice none 0 0] := HB4.out.range 0 _ rfl
  obtain ⟨nb, hnb⟩ : ∃ b, w2.heap.size = b := ⟨_, rfl⟩
  rw [hnb] at rn ⊢
  have k0 : w4.cell? ⟨w.heap.size, 24, none⟩ = some (.string (sb m.type)) := HB14.out.cell 24
  have k1 : w4.cell? ⟨w.heap.size, 25, none⟩ = some (.string (sb m.value)) := HB14.out.cell 25
  have hold : Facts.hold [(0, fun w' => w'.rangeAt nb 0 [.int .i64 4, .string (sb m.name), .slice none 0 0]), (2, fun w' => w'.cell? ⟨w.heap.size, 24, none⟩ = some (.string (sb m.type))), (5, fun w' => w'.cell? ⟨w.heap.size, 25, none⟩ = some (.string (sb m.value)))] w4.drew := Facts.cons_hold rn (Facts.cons_hold k0 (Facts.cons_hold k1 (Facts.nil_hold _)))
  refine wpD_region hold (by kernel_rfl) 11 rfl ?_
  (refine wpD_take 0 _ rfl (by kernel_rfl) (by kernel_rfl) (by kernel_rfl) (fun _ _ _ h => h) List.mem_cons_self (by rfl) (exec_load _ _ rfl nb 0 rfl _ _ rfl rfl infoN) (by assumption) ?_; simp only [Act.put, K.put3])
  (refine wpD_plain 1 (v := ?_) rfl (by kernel_rfl) (by kernel_rfl) (by kernel_rfl) (fun _ _ _ h => h) (by rfl) ?_ (by assumption) ?_; rotate_left; (intro _w; go_simp; try with_reducible rfl); simp only [Act.put, K.put3])
  (refine wpD_take 2 _ rfl (by kernel_rfl) (by kernel_rfl) (by kernel_rfl) (fun _ _ _ h => h) (List.mem_cons_of_mem _ List.mem_cons_self) (by rfl) (v := ?_) ?_ (by assumption) ?_; rotate_left; (intro _w _hw; go_simp; try with_reducible rfl); simp only [Act.put, K.put3])
  (refine wpD_plain 4 (v := ?_) rfl (by kernel_rfl) (by kernel_rfl) (by kernel_rfl) (fun _ _ _ h => h) (by rfl) ?_ (by assumption) ?_; rotate_left; (intro _w; go_simp; try with_reducible rfl); simp only [Act.put, K.put3])
  (refine wpD_take 5 _ rfl (by kernel_rfl) (by kernel_rfl) (by kernel_rfl) (fun _ _ _ h => h) (List.mem_cons_of_mem _ (List.mem_cons_of_mem _ List.mem_cons_self)) (by rfl) (v := ?_) ?_ (by assumption) ?_; rotate_left; (intro _w _hw; go_simp; try with_reducible rfl); simp only [Act.put, K.put3])
  clear hold
  refine wpD_only 3 [(0, fun w' => w'.rangeAt nb 0 [.int .i64 4, .string (sb m.name), .slice none 0 0]), (5, fun w' => w'.cell? ⟨w.heap.size, 25, none⟩ = some (.string (sb m.value)))] rfl (by kernel_rfl) (by kernel_rfl) (by rfl) (fun K3 hK3 => ?_)
  refine wp_call _ _ _ rfl 71 [] rfl (fun vs w => by kernel_rfl) [.string (sb m.type)] (by rfl) ?_
  refine (wtext_any (sb m.type) w4.drew).mono ?_
  rintro e w1c ⟨rfl, f1⟩
  have hf1 : Fr No w4 w1c := (Fr.refl No w4).drew.trans' f1
  refine ⟨_, rfl, hK3 _ _ (Facts.cons_hold (hf1.range rn id) (Facts.cons_hold (hf1.cell k1 id) (Facts.nil_hold _))) ?_⟩
  have k1_0 := hf1.range rn id
  have k1_5 := hf1.cell k1 id
  have HF1 := hid (HF4.out.trans' hf1)
  have HG1 := hid hf1
  clear hK3 K3 f1 hf1 rn k1 k0
  simp only [Act.put, K.put3]
  refine wpD_only 6 [(0, fun w' => w'.rangeAt nb 0 [.int .i64 4, .string (sb m.name), .slice none 0 0])] rfl (by kernel_rfl) (by kernel_rfl) (by rfl) (fun K6 hK6 => ?_)
  refine wp_call _ _ _ rfl 71 [] rfl (fun vs w => by kernel_rfl) [.string (sb m.value)] (by rfl) ?_
  refine (wtext_any (sb m.value) w1c).mono ?_
  rintro e w2c ⟨rfl, f2⟩
  have hf2 : Fr No w1c w2c := f2
  refine ⟨_, rfl, hK6 _ _ (Facts.cons_hold (hf2.range k1_0 id) (Facts.nil_hold _)) ?_⟩
  have k2_0 := hf2.range k1_0 id
  have HF2 := hid (HF1.out.trans' hf2)
  have HG2 := hid (HG1.out.trans' hf2)
  clear hK6 K6 f2 hf2 k1_0 k1_5 HG1 HF1
  simp only [Act.put, K.put3]
  refine wpD_only 7 [(0, fun w' => w'.rangeAt nb 0 [.int .i64 4, .string (sb m.name), .slice none 0 0])] rfl (by kernel_rfl) (by kernel_rfl) (by rfl) (fun K7 hK7 => ?_)
  refine wp_buildRun 42 44 2 [(0, _), (1, _)] rfl [.int .i64 4, .string (sb m.type), .slice none 0 0, .int .i64 4, .string (sb m.value), .slice none 0 0] (run_buildAll 42 44 [.agg #[.int .i64 4, .string (sb m.type), .slice none 0 0], .agg #[.int .i64 4, .string (sb m.value), .slice none 0 0]] ic _ Try.underlying42 IC.out ZC.out (by rw [SC.out]; decide) (by rw [SC.out]; show 2 * 3 ≤ 16777216; decide) (by show 0 < 2; decide) (by rw [SC.out]; intro u hu; simp at hu; rcases hu with rfl | rfl <;> rfl) _) ?_
  intro w3c HB3 F3 HS3
  have hf3 := F3.out
  refine hK7 _ _ (Facts.cons_hold (hf3.range k2_0 id) (Facts.nil_hold _)) ?_
  have HL3 := hid HG2.out.size
  have k3_0 := hf3.range k2_0 id
  have HF3 := hid (HF2.out.trans' hf3)
  have HG3 := hid (HG2.out.trans' hf3)
  have hX3 := HB3
  clear hK7 K7 F3 hf3 HS3 HB3 k2_0 HG2 HF2
  simp only [Act.put, K.put3]
  have HMq := hid (nd_kids (M := 1) (S := Since w4.heap.size) (t := 48) (kids := [txN m.type, txN m.value]) (L := [[.int .i64 4, .string (sb m.type), .slice none 0 0], [.int .i64 4, .string (sb m.value), .slice none 0 0]]) ⟨by omega, by omega⟩ hX3.out (by show w4.heap.size ≤ _; exact HL3.out) rfl (by show (2 : Nat) ≤ _; omega) (fun j y c hy hc => by
    match j, hy, hc with
    | 0, hy, hc => cases hy; cases hc; exact leaf_any 0 _ _ 4 m.type ⟨by omega, by omega⟩ H.out.texts.2.2.2.2.1
    | 1, hy, hc => cases hy; cases hc; exact leaf_any 0 _ _ 4 m.value ⟨by omega, by omega⟩ H.out.texts.2.2.2.2.2.1
    | j + 2, hy, hc => simp at hc))
  refine wpD_only 8 [(0, fun w' => w'.rangeAt nb 0 [.int .i64 4, .string (sb m.name), .slice none 0 0])] rfl (by kernel_rfl) (by kernel_rfl) (by rfl) (fun K8 hK8 => ?_)
  refine wp_call _ _ _ rfl 23 [] rfl (fun vs w => by kernel_rfl) [.int .i64 48, .slice (some ⟨w2c.heap.size, 0, none⟩) 2 2] (by rfl) ?_
  refine (wof_any 48 (some ⟨w2c.heap.size, 0, none⟩) 2 2 w3c).mono ?_
  rintro e w4c ⟨rfl, f4⟩
  have hf4 : Fr No w3c w4c := f4
  refine ⟨_, rfl, hK8 _ _ (Facts.cons_hold (hf4.range k3_0 id) (Facts.nil_hold _)) ?_⟩
  have k4_0 := hf4.range k3_0 id
  have HM4_q := hid (HMq.out.no hf4)
  have HF4 := hid (HF3.out.trans' hf4)
  have HG4 := hid (HG3.out.trans' hf4)
  clear hK8 K8 f4 hf4 k3_0 HMq HG3 HF3
  simp only [Act.put, K.put3]
  have HQ_q : Hid (NdAt 2 (fun k => w4.heap.size ≤ k ∧ k ≠ w4c.heap.size) w4c _ _) := hid (NdAt.mono (fun k hk hs => ⟨hs, by omega⟩) HM4_q.out)
  refine wpD_only 9 [] rfl (by kernel_rfl) (by kernel_rfl) (by rfl) (fun K9 hK9 => ?_)
  refine wp_buildRun 42 44 2 [(0, _), (1, _)] rfl [.int .i64 4, .string (sb m.name), .slice none 0 0, .int .i64 48, .string ⟨#[]⟩, .slice (some ⟨w2c.heap.size, 0, none⟩) 2 2] (run_buildAll 42 44 [.agg #[.int .i64 4, .string (sb m.name), .slice none 0 0], .agg #[.int .i64 48, .string ⟨#[]⟩, .slice (some ⟨w2c.heap.size, 0, none⟩) 2 2]] ic _ Try.underlying42 IC.out ZC.out (by rw [SC.out]; decide) (by rw [SC.out]; show 2 * 3 ≤ 16777216; decide) (by show 0 < 2; decide) (by rw [SC.out]; intro u hu; simp at hu; rcases hu with rfl | rfl <;> rfl) _) ?_
  intro w5c HB5 F5 HS5
  have hf5 := F5.out
  refine hK9 _ _ (Facts.nil_hold _) ?_
  have HL5 := hid HG4.out.size
  have HM5_q := hid (HQ_q.out.no hf5)
  have HF5 := hid (HF4.out.trans' hf5)
  have HG5 := hid (HG4.out.trans' hf5)
  have hX5 := HB5
  clear hK9 K9 F5 hf5 HS5 HB5 k4_0 HQ_q HG4 HF4
  simp only [Act.put, K.put3]
  have HROW := hid (KR.new (m := 8) (base := w4.heap.size) (acc := [txN m.name, .mk 48 [] [txN m.type, txN m.value]]) (L := [[.int .i64 4, .string (sb m.name), .slice none 0 0], [.int .i64 48, .string ⟨#[]⟩, .slice (some ⟨w2c.heap.size, 0, none⟩) 2 2]]) (N := 0) hX5.out HL5.out rfl (by intro c hc; simp at hc; rcases hc with rfl | rfl <;> rfl) (by show 2 ≤ maxLen; unfold maxLen; omega) (fun j y c hy hc => by
    match j, hy, hc with
    | 0, hy, hc => cases hy; cases hc; exact leaf_any 7 _ _ 4 m.name ⟨by omega, by omega⟩ H.out.texts.1
    | 1, hy, hc => cases hy; cases hc; exact nd_le HM5_q.out (by omega)
    | j + 2, hy, hc => simp at hc))
  have hold : Facts.hold [] w5c := Facts.nil_hold _
  (refine wpD_plain 10 (v := ?_) rfl (by kernel_rfl) (by kernel_rfl) (by kernel_rfl) (fun _ _ _ h => h) (by rfl) ?_ (by assumption) ?_; rotate_left; (intro _w; go_simp; try with_reducible rfl); simp only [Act.put, K.put3])
  clear hold
  refine wpD_done (by kernel_rfl) ?_ _
  go_wp2_with fail
  go_ret
  exact ⟨_, _, w4.heap.size, rfl, HF4.out.size, HROW.out, HF5.out⟩
end Go.Proofs.Ythjmkfpdbbfcpaa.ME
