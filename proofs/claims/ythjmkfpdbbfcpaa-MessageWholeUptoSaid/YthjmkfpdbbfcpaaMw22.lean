/-
  Part 22 of the proof: MpI3.
-/
import Derived.Test.YthjmkfpdbbfcpaaMw12
set_option linter.unusedSimpArgs false
set_option linter.unusedVariables false
namespace Go.Proofs.Ythjmkfpdbbfcpaa.ME
set_option maxRecDepth 100000
open Go.RowKit K Go.Proofs.Ythjmkfpdbbfcpaa.BE Go.Proofs.Ythjmkfpdbbfcpaa.FR

theorem right_97 (m : Msg) (hop : m.op = 97) : rightM m = (inI m.id 0 2147483647 && inI m.code 0 127 && emptyM { m with code := 0, matched := [], text := [] }) := by
  have hmods : m.mods.isEmpty = true → m.mods.all (fun x => inI x.doing 0 2) = true := fun h => by rw [List.isEmpty_iff.1 h]; rfl
  have h0 : emptyF fl0 = true := rfl
  have hn : ([] : B).isEmpty = true := rfl
  rw [Bool.eq_iff_iff]
  simp only [rightM, emptyM, searchOk, hop]
  cases hmv : m.moves <;> simp [namO, ansO, h0] <;> constructor <;> intro h <;> simp_all
set_option maxHeartbeats 16000000 in
theorem pright_97 (M : Nat) (E : Nat → Prop) (m : Msg) (vk va vw vl vm : Value) (w : World) (h : MsgC M E w m vk va vw vl vm) (hop : m.op = 97) : Calls Try.prog 20 #[.agg (mcs m vk va vw vl vm).toArray] w fun e w' => e = .returned (.bool (rightM m)) ∧ Fr No w w' := by
  rw [right_97 m hop]
  have H := hid h; have HOP := hid hop
  have e : mcs m vk va vw vl vm = [.int .i64 m.id, .int .i64 97, .int .i64 m.ver, .string (sb m.name), .string (sb m.pw), .int .i64 m.scope, .int .i64 m.deref, .int .i64 m.size, .int .i64 m.time, .bool m.typesOnly, .int .i64 m.filter.kind, vk, .string (sb m.filter.type), .string (sb m.filter.value), .string (sb m.filter.first), va, .string (sb m.filter.last), vw, vl, vm, .string (sb m.rdn), .bool m.dropOld, .bool m.moves, .string (sb m.sup), .string (sb m.type), .string (sb m.value), .int .i64 m.target, .int .i64 m.code, .string (sb m.matched), .string (sb m.text)] := by unfold mcs; rw [hop]
  rw [e]
  have HE := hid e
  clear e
  clear h hop
  obtain ⟨b0, hb0⟩ : ∃ b, inI m.id 0 2147483647 = b := ⟨_, rfl⟩
  rw [hb0]
  have HB_0 := hid hb0
  clear hb0
  obtain ⟨b1, hb1⟩ : ∃ b, (inI m.code 0 127) = b := ⟨_, rfl⟩
  rw [hb1]
  have HB_1 := hid hb1
  clear hb1
  obtain ⟨EO, hEO⟩ : ∃ b, emptyM { m with code := 0, matched := [], text := [] } = b := ⟨_, rfl⟩
  rw [hEO]
  have HEO := hid hEO
  clear hEO
  go_enter Try.func20, Try.ntmps20
  go_wp2_with (first
    | ((with_reducible refine K.atO (.box 29 _) ?_); refine wpL_box rfl _ _ rfl _ rfl [.int .i64 m.id, .int .i64 97, .int .i64 m.ver, .string (sb m.name), .string (sb m.pw), .int .i64 m.scope, .int .i64 m.deref, .int .i64 m.size, .int .i64 m.time, .bool m.typesOnly, .int .i64 m.filter.kind, vk, .string (sb m.filter.type), .string (sb m.filter.value), .string (sb m.filter.first), va, .string (sb m.filter.last), vw, vl, vm, .string (sb m.rdn), .bool m.dropOld, .bool m.moves, .string (sb m.sup), .string (sb m.type), .string (sb m.value), .int .i64 m.target, .int .i64 m.code, .string (sb m.matched), .string (sb m.text)] rfl ?_; intro w1 HB1 F1 HS1; have c0 : w1.cell? ⟨w.heap.size, 0, none⟩ = some (.int .i64 m.id) := HB1.out.cell 0; have c1 : w1.cell? ⟨w.heap.size, 1, none⟩ = some (.int .i64 97) := HB1.out.cell 1; have c27 : w1.cell? ⟨w.heap.size, 27, none⟩ = some (.int .i64 m.code) := HB1.out.cell 27)
    | fail)
  refine (pnumber_any m.id w1).mono ?_
  rintro e x0 ⟨rfl, hx0⟩
  have hy0 := hx0.symm
  subst hy0
  rw [HB_0.out]
  cases b0 with
  | false =>
    go_wp2_with (first
      | ((with_reducible refine K.atO (.store 3 _ _) ?_); (fail_if_success (have := HZ0)); refine wpL_setV rfl _ _ _ rfl w.heap.size 27 (.int .i64 0) rfl rfl rfl rfl _ _ HB1.out (by simp) infoI0 ?_; intro s0 HY0 FY0 HSY0; have HZ0 := HY0; have HW0 := hid (F1.out.trans FY0.out fun k e => .inr (by have e : k = w.heap.size := e; omega)))
      | ((with_reducible refine K.atO (.store 9 _ _) ?_); (fail_if_success (have := HZ1)); (have := HZ0); refine wpL_setV rfl _ _ _ rfl w.heap.size 28 (.string ⟨#[]⟩) rfl rfl rfl rfl _ _ HZ0.out (by simp) infoS ?_; intro s1 HY1 FY1 HSY1; have HZ1 := HY1; have HW1 := hid (HW0.out.trans FY1.out fun k e => .inr (by have e : k = w.heap.size := e; omega)))
      | ((with_reducible refine K.atO (.store 9 _ _) ?_); (fail_if_success (have := HZ2)); (have := HZ1); refine wpL_setV rfl _ _ _ rfl w.heap.size 29 (.string ⟨#[]⟩) rfl rfl rfl rfl _ _ HZ1.out (by simp) infoS ?_; intro s2 HY2 FY2 HSY2; have HZ2 := HY2; have HW2 := hid (HW1.out.trans FY2.out fun k e => .inr (by have e : k = w.heap.size := e; omega)))
      | fail)
    go_ret
    exact ⟨by simp, HW2.out⟩
  | true =>
  go_wp2_with fail
  refine (pcode_any m.code w1).mono ?_
  rintro e x1 ⟨rfl, hx1⟩
  have hy1 := hx1.symm
  subst hy1
  rw [HB_1.out]
  cases b1 with
  | false =>
    go_wp2_with (first
      | ((with_reducible refine K.atO (.store 3 _ _) ?_); (fail_if_success (have := HZ0)); refine wpL_setV rfl _ _ _ rfl w.heap.size 27 (.int .i64 0) rfl rfl rfl rfl _ _ HB1.out (by simp) infoI0 ?_; intro s0 HY0 FY0 HSY0; have HZ0 := HY0; have HW0 := hid (F1.out.trans FY0.out fun k e => .inr (by have e : k = w.heap.size := e; omega)))
      | ((with_reducible refine K.atO (.store 9 _ _) ?_); (fail_if_success (have := HZ1)); (have := HZ0); refine wpL_setV rfl _ _ _ rfl w.heap.size 28 (.string ⟨#[]⟩) rfl rfl rfl rfl _ _ HZ0.out (by simp) infoS ?_; intro s1 HY1 FY1 HSY1; have HZ1 := HY1; have HW1 := hid (HW0.out.trans FY1.out fun k e => .inr (by have e : k = w.heap.size := e; omega)))
      | ((with_reducible refine K.atO (.store 9 _ _) ?_); (fail_if_success (have := HZ2)); (have := HZ1); refine wpL_setV rfl _ _ _ rfl w.heap.size 29 (.string ⟨#[]⟩) rfl rfl rfl rfl _ _ HZ1.out (by simp) infoS ?_; intro s2 HY2 FY2 HSY2; have HZ2 := HY2; have HW2 := hid (HW1.out.trans FY2.out fun k e => .inr (by have e : k = w.heap.size := e; omega)))
      | fail)
    go_ret
    exact ⟨by simp, HW2.out⟩
  | true =>
    go_wp2_with (first
      | ((with_reducible refine K.atO (.store 3 _ _) ?_); (fail_if_success (have := HZ0)); refine wpL_setV rfl _ _ _ rfl w.heap.size 27 (.int .i64 0) rfl rfl rfl rfl _ _ HB1.out (by simp) infoI0 ?_; intro s0 HY0 FY0 HSY0; have HZ0 := HY0; have HW0 := hid (F1.out.trans FY0.out fun k e => .inr (by have e : k = w.heap.size := e; omega)))
      | ((with_reducible refine K.atO (.store 9 _ _) ?_); (fail_if_success (have := HZ1)); (have := HZ0); refine wpL_setV rfl _ _ _ rfl w.heap.size 28 (.string ⟨#[]⟩) rfl rfl rfl rfl _ _ HZ0.out (by simp) infoS ?_; intro s1 HY1 FY1 HSY1; have HZ1 := HY1; have HW1 := hid (HW0.out.trans FY1.out fun k e => .inr (by have e : k = w.heap.size := e; omega)))
      | ((with_reducible refine K.atO (.store 9 _ _) ?_); (fail_if_success (have := HZ2)); (have := HZ1); refine wpL_setV rfl _ _ _ rfl w.heap.size 29 (.string ⟨#[]⟩) rfl rfl rfl rfl _ _ HZ1.out (by simp) infoS ?_; intro s2 HY2 FY2 HSY2; have HZ2 := HY2; have HW2 := hid (HW1.out.trans FY2.out fun k e => .inr (by have e : k = w.heap.size := e; omega)))
      | ((with_reducible refine K.atO (.load 29 _) ?_); refine wpL_valZ (by rfl) (.agg #[.int .i64 m.id, .int .i64 97, .int .i64 m.ver, .string (sb m.name), .string (sb m.pw), .int .i64 m.scope, .int .i64 m.deref, .int .i64 m.size, .int .i64 m.time, .bool m.typesOnly, .int .i64 m.filter.kind, vk, .string (sb m.filter.type), .string (sb m.filter.value), .string (sb m.filter.first), va, .string (sb m.filter.last), vw, vl, vm, .string (sb m.rdn), .bool m.dropOld, .bool m.moves, .string (sb m.sup), .string (sb m.type), .string (sb m.value), .int .i64 m.target, .int .i64 0, .string ⟨#[]⟩, .string ⟨#[]⟩]) (exec_load _ _ rfl w.heap.size 0 rfl [.int .i64 m.id, .int .i64 97, .int .i64 m.ver, .string (sb m.name), .string (sb m.pw), .int .i64 m.scope, .int .i64 m.deref, .int .i64 m.size, .int .i64 m.time, .bool m.typesOnly, .int .i64 m.filter.kind, vk, .string (sb m.filter.type), .string (sb m.filter.value), .string (sb m.filter.first), va, .string (sb m.filter.last), vw, vl, vm, .string (sb m.rdn), .bool m.dropOld, .bool m.moves, .string (sb m.sup), .string (sb m.type), .string (sb m.value), .int .i64 m.target, .int .i64 0, .string ⟨#[]⟩, .string ⟨#[]⟩] _ rfl rfl infoMsg _ (HZ2.out.range 0 _ rfl)) ?_)
      | fail)
    have HMM : MsgC M E s2 { m with code := 0, matched := [], text := [] } (vk) (va) (vw) (vl) (vm) := ⟨⟨H.out.ints.1, H.out.ints.2.1, H.out.ints.2.2.1, H.out.ints.2.2.2.1, H.out.ints.2.2.2.2.1, H.out.ints.2.2.2.2.2.1, H.out.ints.2.2.2.2.2.2.1, H.out.ints.2.2.2.2.2.2.2.1, i64z⟩, ⟨H.out.texts.1, H.out.texts.2.1, H.out.texts.2.2.1, H.out.texts.2.2.2.1, H.out.texts.2.2.2.2.1, H.out.texts.2.2.2.2.2.1, (Nat.zero_le _), (Nat.zero_le _)⟩, H.out.filter.no HW2.out, H.out.wants.no HW2.out, H.out.list.noA HW2.out, H.out.mods.noM HW2.out⟩
    have hcall := pemptyM_any M E { m with code := 0, matched := [], text := [] } (vk) (va) (vw) (vl) (vm) s2 HMM
    have hcells : mcs { m with code := 0, matched := [], text := [] } (vk) (va) (vw) (vl) (vm) = [.int .i64 m.id, .int .i64 97, .int .i64 m.ver, .string (sb m.name), .string (sb m.pw), .int .i64 m.scope, .int .i64 m.deref, .int .i64 m.size, .int .i64 m.time, .bool m.typesOnly, .int .i64 m.filter.kind, vk, .string (sb m.filter.type), .string (sb m.filter.value), .string (sb m.filter.first), va, .string (sb m.filter.last), vw, vl, vm, .string (sb m.rdn), .bool m.dropOld, .bool m.moves, .string (sb m.sup), .string (sb m.type), .string (sb m.value), .int .i64 m.target, .int .i64 0, .string ⟨#[]⟩, .string ⟨#[]⟩] := by unfold mcs; simp only [HOP.out]; try rfl
    rw [hcells] at hcall
    refine hcall.mono ?_
    rintro e w9 ⟨rfl, f9⟩
    rw [HEO.out]
    have HF9 := hid (HW2.out.trans' f9)
    clear f9 hcall hcells HMM
    go_wp2_with fail
    go_ret
    exact ⟨by cases EO <;> rfl, HF9.out⟩
theorem right_101 (m : Msg) (hop : m.op = 101) : rightM m = (inI m.id 0 2147483647 && inI m.code 0 127 && emptyM { m with code := 0, matched := [], text := [] }) := by
  have hmods : m.mods.isEmpty = true → m.mods.all (fun x => inI x.doing 0 2) = true := fun h => by rw [List.isEmpty_iff.1 h]; rfl
  have h0 : emptyF fl0 = true := rfl
  have hn : ([] : B).isEmpty = true := rfl
  rw [Bool.eq_iff_iff]
  simp only [rightM, emptyM, searchOk, hop]
  cases hmv : m.moves <;> simp [namO, ansO, h0] <;> constructor <;> intro h <;> simp_all
set_option maxHeartbeats 16000000 in
theorem pright_101 (M : Nat) (E : Nat → Prop) (m : Msg) (vk va vw vl vm : Value) (w : World) (h : MsgC M E w m vk va vw vl vm) (hop : m.op = 101) : Calls Try.prog 20 #[.agg (mcs m vk va vw vl vm).toArray] w fun e w' => e = .returned (.bool (rightM m)) ∧ Fr No w w' := by
  rw [right_101 m hop]
  have H := hid h; have HOP := hid hop
  have e : mcs m vk va vw vl vm = [.int .i64 m.id, .int .i64 101, .int .i64 m.ver, .string (sb m.name), .string (sb m.pw), .int .i64 m.scope, .int .i64 m.deref, .int .i64 m.size, .int .i64 m.time, .bool m.typesOnly, .int .i64 m.filter.kind, vk, .string (sb m.filter.type), .string (sb m.filter.value), .string (sb m.filter.first), va, .string (sb m.filter.last), vw, vl, vm, .string (sb m.rdn), .bool m.dropOld, .bool m.moves, .string (sb m.sup), .string (sb m.type), .string (sb m.value), .int .i64 m.target, .int .i64 m.code, .string (sb m.matched), .string (sb m.text)] := by unfold mcs; rw [hop]
  rw [e]
  have HE := hid e
  clear e
  clear h hop
  obtain ⟨b0, hb0⟩ : ∃ b, inI m.id 0 2147483647 = b := ⟨_, rfl⟩
  rw [hb0]
  have HB_0 := hid hb0
  clear hb0
  obtain ⟨b1, hb1⟩ : ∃ b, (inI m.code 0 127) = b := ⟨_, rfl⟩
  rw [hb1]
  have HB_1 := hid hb1
  clear hb1
  obtain ⟨EO, hEO⟩ : ∃ b, emptyM { m with code := 0, matched := [], text := [] } = b := ⟨_, rfl⟩
  rw [hEO]
  have HEO := hid hEO
  clear hEO
  go_enter Try.func20, Try.ntmps20
  go_wp2_with (first
    | ((with_reducible refine K.atO (.box 29 _) ?_); refine wpL_box rfl _ _ rfl _ rfl [.int .i64 m.id, .int .i64 101, .int .i64 m.ver, .string (sb m.name), .string (sb m.pw), .int .i64 m.scope, .int .i64 m.deref, .int .i64 m.size, .int .i64 m.time, .bool m.typesOnly, .int .i64 m.filter.kind, vk, .string (sb m.filter.type), .string (sb m.filter.value), .string (sb m.filter.first), va, .string (sb m.filter.last), vw, vl, vm, .string (sb m.rdn), .bool m.dropOld, .bool m.moves, .string (sb m.sup), .string (sb m.type), .string (sb m.value), .int .i64 m.target, .int .i64 m.code, .string (sb m.matched), .string (sb m.text)] rfl ?_; intro w1 HB1 F1 HS1; have c0 : w1.cell? ⟨w.heap.size, 0, none⟩ = some (.int .i64 m.id) := HB1.out.cell 0; have c1 : w1.cell? ⟨w.heap.size, 1, none⟩ = some (.int .i64 101) := HB1.out.cell 1; have c27 : w1.cell? ⟨w.heap.size, 27, none⟩ = some (.int .i64 m.code) := HB1.out.cell 27)
    | fail)
  refine (pnumber_any m.id w1).mono ?_
  rintro e x0 ⟨rfl, hx0⟩
  have hy0 := hx0.symm
  subst hy0
  rw [HB_0.out]
  cases b0 with
  | false =>
    go_wp2_with (first
      | ((with_reducible refine K.atO (.store 3 _ _) ?_); (fail_if_success (have := HZ0)); refine wpL_setV rfl _ _ _ rfl w.heap.size 27 (.int .i64 0) rfl rfl rfl rfl _ _ HB1.out (by simp) infoI0 ?_; intro s0 HY0 FY0 HSY0; have HZ0 := HY0; have HW0 := hid (F1.out.trans FY0.out fun k e => .inr (by have e : k = w.heap.size := e; omega)))
      | ((with_reducible refine K.atO (.store 9 _ _) ?_); (fail_if_success (have := HZ1)); (have := HZ0); refine wpL_setV rfl _ _ _ rfl w.heap.size 28 (.string ⟨#[]⟩) rfl rfl rfl rfl _ _ HZ0.out (by simp) infoS ?_; intro s1 HY1 FY1 HSY1; have HZ1 := HY1; have HW1 := hid (HW0.out.trans FY1.out fun k e => .inr (by have e : k = w.heap.size := e; omega)))
      | ((with_reducible refine K.atO (.store 9 _ _) ?_); (fail_if_success (have := HZ2)); (have := HZ1); refine wpL_setV rfl _ _ _ rfl w.heap.size 29 (.string ⟨#[]⟩) rfl rfl rfl rfl _ _ HZ1.out (by simp) infoS ?_; intro s2 HY2 FY2 HSY2; have HZ2 := HY2; have HW2 := hid (HW1.out.trans FY2.out fun k e => .inr (by have e : k = w.heap.size := e; omega)))
      | fail)
    go_ret
    exact ⟨by simp, HW2.out⟩
  | true =>
  go_wp2_with fail
  refine (pcode_any m.code w1).mono ?_
  rintro e x1 ⟨rfl, hx1⟩
  have hy1 := hx1.symm
  subst hy1
  rw [HB_1.out]
  cases b1 with
  | false =>
    go_wp2_with (first
      | ((with_reducible refine K.atO (.store 3 _ _) ?_); (fail_if_success (have := HZ0)); refine wpL_setV rfl _ _ _ rfl w.heap.size 27 (.int .i64 0) rfl rfl rfl rfl _ _ HB1.out (by simp) infoI0 ?_; intro s0 HY0 FY0 HSY0; have HZ0 := HY0; have HW0 := hid (F1.out.trans FY0.out fun k e => .inr (by have e : k = w.heap.size := e; omega)))
      | ((with_reducible refine K.atO (.store 9 _ _) ?_); (fail_if_success (have := HZ1)); (have := HZ0); refine wpL_setV rfl _ _ _ rfl w.heap.size 28 (.string ⟨#[]⟩) rfl rfl rfl rfl _ _ HZ0.out (by simp) infoS ?_; intro s1 HY1 FY1 HSY1; have HZ1 := HY1; have HW1 := hid (HW0.out.trans FY1.out fun k e => .inr (by have e : k = w.heap.size := e; omega)))
      | ((with_reducible refine K.atO (.store 9 _ _) ?_); (fail_if_success (have := HZ2)); (have := HZ1); refine wpL_setV rfl _ _ _ rfl w.heap.size 29 (.string ⟨#[]⟩) rfl rfl rfl rfl _ _ HZ1.out (by simp) infoS ?_; intro s2 HY2 FY2 HSY2; have HZ2 := HY2; have HW2 := hid (HW1.out.trans FY2.out fun k e => .inr (by have e : k = w.heap.size := e; omega)))
      | fail)
    go_ret
    exact ⟨by simp, HW2.out⟩
  | true =>
    go_wp2_with (first
      | ((with_reducible refine K.atO (.store 3 _ _) ?_); (fail_if_success (have := HZ0)); refine wpL_setV rfl _ _ _ rfl w.heap.size 27 (.int .i64 0) rfl rfl rfl rfl _ _ HB1.out (by simp) infoI0 ?_; intro s0 HY0 FY0 HSY0; have HZ0 := HY0; have HW0 := hid (F1.out.trans FY0.out fun k e => .inr (by have e : k = w.heap.size := e; omega)))
      | ((with_reducible refine K.atO (.store 9 _ _) ?_); (fail_if_success (have := HZ1)); (have := HZ0); refine wpL_setV rfl _ _ _ rfl w.heap.size 28 (.string ⟨#[]⟩) rfl rfl rfl rfl _ _ HZ0.out (by simp) infoS ?_; intro s1 HY1 FY1 HSY1; have HZ1 := HY1; have HW1 := hid (HW0.out.trans FY1.out fun k e => .inr (by have e : k = w.heap.size := e; omega)))
      | ((with_reducible refine K.atO (.store 9 _ _) ?_); (fail_if_success (have := HZ2)); (have := HZ1); refine wpL_setV rfl _ _ _ rfl w.heap.size 29 (.string ⟨#[]⟩) rfl rfl rfl rfl _ _ HZ1.out (by simp) infoS ?_; intro s2 HY2 FY2 HSY2; have HZ2 := HY2; have HW2 := hid (HW1.out.trans FY2.out fun k e => .inr (by have e : k = w.heap.size := e; omega)))
      | ((with_reducible refine K.atO (.load 29 _) ?_); refine wpL_valZ (by rfl) (.agg #[.int .i64 m.id, .int .i64 101, .int .i64 m.ver, .string (sb m.name), .string (sb m.pw), .int .i64 m.scope, .int .i64 m.deref, .int .i64 m.size, .int .i64 m.time, .bool m.typesOnly, .int .i64 m.filter.kind, vk, .string (sb m.filter.type), .string (sb m.filter.value), .string (sb m.filter.first), va, .string (sb m.filter.last), vw, vl, vm, .string (sb m.rdn), .bool m.dropOld, .bool m.moves, .string (sb m.sup), .string (sb m.type), .string (sb m.value), .int .i64 m.target, .int .i64 0, .string ⟨#[]⟩, .string ⟨#[]⟩]) (exec_load _ _ rfl w.heap.size 0 rfl [.int .i64 m.id, .int .i64 101, .int .i64 m.ver, .string (sb m.name), .string (sb m.pw), .int .i64 m.scope, .int .i64 m.deref, .int .i64 m.size, .int .i64 m.time, .bool m.typesOnly, .int .i64 m.filter.kind, vk, .string (sb m.filter.type), .string (sb m.filter.value), .string (sb m.filter.first), va, .string (sb m.filter.last), vw, vl, vm, .string (sb m.rdn), .bool m.dropOld, .bool m.moves, .string (sb m.sup), .string (sb m.type), .string (sb m.value), .int .i64 m.target, .int .i64 0, .string ⟨#[]⟩, .string ⟨#[]⟩] _ rfl rfl infoMsg _ (HZ2.out.range 0 _ rfl)) ?_)
      | fail)
    have HMM : MsgC M E s2 { m with code := 0, matched := [], text := [] } (vk) (va) (vw) (vl) (vm) := ⟨⟨H.out.ints.1, H.out.ints.2.1, H.out.ints.2.2.1, H.out.ints.2.2.2.1, H.out.ints.2.2.2.2.1, H.out.ints.2.2.2.2.2.1, H.out.ints.2.2.2.2.2.2.1, H.out.ints.2.2.2.2.2.2.2.1, i64z⟩, ⟨H.out.texts.1, H.out.texts.2.1, H.out.texts.2.2.1, H.out.texts.2.2.2.1, H.out.texts.2.2.2.2.1, H.out.texts.2.2.2.2.2.1, (Nat.zero_le _), (Nat.zero_le _)⟩, H.out.filter.no HW2.out, H.out.wants.no HW2.out, H.out.list.noA HW2.out, H.out.mods.noM HW2.out⟩
    have hcall := pemptyM_any M E { m with code := 0, matched := [], text := [] } (vk) (va) (vw) (vl) (vm) s2 HMM
    have hcells : mcs { m with code := 0, matched := [], text := [] } (vk) (va) (vw) (vl) (vm) = [.int .i64 m.id, .int .i64 101, .int .i64 m.ver, .string (sb m.name), .string (sb m.pw), .int .i64 m.scope, .int .i64 m.deref, .int .i64 m.size, .int .i64 m.time, .bool m.typesOnly, .int .i64 m.filter.kind, vk, .string (sb m.filter.type), .string (sb m.filter.value), .string (sb m.filter.first), va, .string (sb m.filter.last), vw, vl, vm, .string (sb m.rdn), .bool m.dropOld, .bool m.moves, .string (sb m.sup), .string (sb m.type), .string (sb m.value), .int .i64 m.target, .int .i64 0, .string ⟨#[]⟩, .string ⟨#[]⟩] := by unfold mcs; simp only [HOP.out]; try rfl
    rw [hcells] at hcall
    refine hcall.mono ?_
    rintro e w9 ⟨rfl, f9⟩
    rw [HEO.out]
    have HF9 := hid (HW2.out.trans' f9)
    clear f9 hcall hcells HMM
    go_wp2_with fail
    go_ret
    exact ⟨by cases EO <;> rfl, HF9.out⟩
theorem right_103 (m : Msg) (hop : m.op = 103) : rightM m = (inI m.id 0 2147483647 && inI m.code 0 127 && emptyM { m with code := 0, matched := [], text := [] }) := by
  have hmods : m.mods.isEmpty = true → m.mods.all (fun x => inI x.doing 0 2) = true := fun h => by rw [List.isEmpty_iff.1 h]; rfl
  have h0 : emptyF fl0 = true := rfl
  have hn : ([] : B).isEmpty = true := rfl
  rw [Bool.eq_iff_iff]
  simp only [rightM, emptyM, searchOk, hop]
  cases hmv : m.moves <;> simp [namO, ansO, h0] <;> constructor <;> intro h <;> simp_all
set_option maxHeartbeats 16000000 in
theorem pright_103 (M : Nat) (E : Nat → Prop) (m : Msg) (vk va vw vl vm : Value) (w : World) (h : MsgC M E w m vk va vw vl vm) (hop : m.op = 103) : Calls Try.prog 20 #[.agg (mcs m vk va vw vl vm).toArray] w fun e w' => e = .returned (.bool (rightM m)) ∧ Fr No w w' := by
  rw [right_103 m hop]
  have H := hid h; have HOP := hid hop
  have e : mcs m vk va vw vl vm = [.int .i64 m.id, .int .i64 103, .int .i64 m.ver, .string (sb m.name), .string (sb m.pw), .int .i64 m.scope, .int .i64 m.deref, .int .i64 m.size, .int .i64 m.time, .bool m.typesOnly, .int .i64 m.filter.kind, vk, .string (sb m.filter.type), .string (sb m.filter.value), .string (sb m.filter.first), va, .string (sb m.filter.last), vw, vl, vm, .string (sb m.rdn), .bool m.dropOld, .bool m.moves, .string (sb m.sup), .string (sb m.type), .string (sb m.value), .int .i64 m.target, .int .i64 m.code, .string (sb m.matched), .string (sb m.text)] := by unfold mcs; rw [hop]
  rw [e]
  have HE := hid e
  clear e
  clear h hop
  obtain ⟨b0, hb0⟩ : ∃ b, inI m.id 0 2147483647 = b := ⟨_, rfl⟩
  rw [hb0]
  have HB_0 := hid hb0
  clear hb0
  obtain ⟨b1, hb1⟩ : ∃ b, (inI m.code 0 127) = b := ⟨_, rfl⟩
  rw [hb1]
  have HB_1 := hid hb1
  clear hb1
  obtain ⟨EO, hEO⟩ : ∃ b, emptyM { m with code := 0, matched := [], text := [] } = b := ⟨_, rfl⟩
  rw [hEO]
  have HEO := hid hEO
  clear hEO
  go_enter Try.func20, Try.ntmps20
  go_wp2_with (first
    | ((with_reducible refine K.atO (.box 29 _) ?_); refine wpL_box rfl _ _ rfl _ rfl [.int .i64 m.id, .int .i64 103, .int .i64 m.ver, .string (sb m.name), .string (sb m.pw), .int .i64 m.scope, .int .i64 m.deref, .int .i64 m.size, .int .i64 m.time, .bool m.typesOnly, .int .i64 m.filter.kind, vk, .string (sb m.filter.type), .string (sb m.filter.value), .string (sb m.filter.first), va, .string (sb m.filter.last), vw, vl, vm, .string (sb m.rdn), .bool m.dropOld, .bool m.moves, .string (sb m.sup), .string (sb m.type), .string (sb m.value), .int .i64 m.target, .int .i64 m.code, .string (sb m.matched), .string (sb m.text)] rfl ?_; intro w1 HB1 F1 HS1; have c0 : w1.cell? ⟨w.heap.size, 0, none⟩ = some (.int .i64 m.id) := HB1.out.cell 0; have c1 : w1.cell? ⟨w.heap.size, 1, none⟩ = some (.int .i64 103) := HB1.out.cell 1; have c27 : w1.cell? ⟨w.heap.size, 27, none⟩ = some (.int .i64 m.code) := HB1.out.cell 27)
    | fail)
  refine (pnumber_any m.id w1).mono ?_
  rintro e x0 ⟨rfl, hx0⟩
  have hy0 := hx0.symm
  subst hy0
  rw [HB_0.out]
  cases b0 with
  | false =>
    go_wp2_with (first
      | ((with_reducible refine K.atO (.store 3 _ _) ?_); (fail_if_success (have := HZ0)); refine wpL_setV rfl _ _ _ rfl w.heap.size 27 (.int .i64 0) rfl rfl rfl rfl _ _ HB1.out (by simp) infoI0 ?_; intro s0 HY0 FY0 HSY0; have HZ0 := HY0; have HW0 := hid (F1.out.trans FY0.out fun k e => .inr (by have e : k = w.heap.size := e; omega)))
      | ((with_reducible refine K.atO (.store 9 _ _) ?_); (fail_if_success (have := HZ1)); (have := HZ0); refine wpL_setV rfl _ _ _ rfl w.heap.size 28 (.string ⟨#[]⟩) rfl rfl rfl rfl _ _ HZ0.out (by simp) infoS ?_; intro s1 HY1 FY1 HSY1; have HZ1 := HY1; have HW1 := hid (HW0.out.trans FY1.out fun k e => .inr (by have e : k = w.heap.size := e; omega)))
      | ((with_reducible refine K.atO (.store 9 _ _) ?_); (fail_if_success (have := HZ2)); (have := HZ1); refine wpL_setV rfl _ _ _ rfl w.heap.size 29 (.string ⟨#[]⟩) rfl rfl rfl rfl _ _ HZ1.out (by simp) infoS ?_; intro s2 HY2 FY2 HSY2; have HZ2 := HY2; have HW2 := hid (HW1.out.trans FY2.out fun k e => .inr (by have e : k = w.heap.size := e; omega)))
      | fail)
    go_ret
    exact ⟨by simp, HW2.out⟩
  | true =>
  go_wp2_with fail
  refine (pcode_any m.code w1).mono ?_
  rintro e x1 ⟨rfl, hx1⟩
  have hy1 := hx1.symm
  subst hy1
  rw [HB_1.out]
  cases b1 with
  | false =>
    go_wp2_with (first
      | ((with_reducible refine K.atO (.store 3 _ _) ?_); (fail_if_success (have := HZ0)); refine wpL_setV rfl _ _ _ rfl w.heap.size 27 (.int .i64 0) rfl rfl rfl rfl _ _ HB1.out (by simp) infoI0 ?_; intro s0 HY0 FY0 HSY0; have HZ0 := HY0; have HW0 := hid (F1.out.trans FY0.out fun k e => .inr (by have e : k = w.heap.size := e; omega)))
      | ((with_reducible refine K.atO (.store 9 _ _) ?_); (fail_if_success (have := HZ1)); (have := HZ0); refine wpL_setV rfl _ _ _ rfl w.heap.size 28 (.string ⟨#[]⟩) rfl rfl rfl rfl _ _ HZ0.out (by simp) infoS ?_; intro s1 HY1 FY1 HSY1; have HZ1 := HY1; have HW1 := hid (HW0.out.trans FY1.out fun k e => .inr (by have e : k = w.heap.size := e; omega)))
      | ((with_reducible refine K.atO (.store 9 _ _) ?_); (fail_if_success (have := HZ2)); (have := HZ1); refine wpL_setV rfl _ _ _ rfl w.heap.size 29 (.string ⟨#[]⟩) rfl rfl rfl rfl _ _ HZ1.out (by simp) infoS ?_; intro s2 HY2 FY2 HSY2; have HZ2 := HY2; have HW2 := hid (HW1.out.trans FY2.out fun k e => .inr (by have e : k = w.heap.size := e; omega)))
      | fail)
    go_ret
    exact ⟨by simp, HW2.out⟩
  | true =>
    go_wp2_with (first
      | ((with_reducible refine K.atO (.store 3 _ _) ?_); (fail_if_success (have := HZ0)); refine wpL_setV rfl _ _ _ rfl w.heap.size 27 (.int .i64 0) rfl rfl rfl rfl _ _ HB1.out (by simp) infoI0 ?_; intro s0 HY0 FY0 HSY0; have HZ0 := HY0; have HW0 := hid (F1.out.trans FY0.out fun k e => .inr (by have e : k = w.heap.size := e; omega)))
      | ((with_reducible refine K.atO (.store 9 _ _) ?_); (fail_if_success (have := HZ1)); (have := HZ0); refine wpL_setV rfl _ _ _ rfl w.heap.size 28 (.string ⟨#[]⟩) rfl rfl rfl rfl _ _ HZ0.out (by simp) infoS ?_; intro s1 HY1 FY1 HSY1; have HZ1 := HY1; have HW1 := hid (HW0.out.trans FY1.out fun k e => .inr (by have e : k = w.heap.size := e; omega)))
      | ((with_reducible refine K.atO (.store 9 _ _) ?_); (fail_if_success (have := HZ2)); (have := HZ1); refine wpL_setV rfl _ _ _ rfl w.heap.size 29 (.string ⟨#[]⟩) rfl rfl rfl rfl _ _ HZ1.out (by simp) infoS ?_; intro s2 HY2 FY2 HSY2; have HZ2 := HY2; have HW2 := hid (HW1.out.trans FY2.out fun k e => .inr (by have e : k = w.heap.size := e; omega)))
      | ((with_reducible refine K.atO (.load 29 _) ?_); refine wpL_valZ (by rfl) (.agg #[.int .i64 m.id, .int .i64 103, .int .i64 m.ver, .string (sb m.name), .string (sb m.pw), .int .i64 m.scope, .int .i64 m.deref, .int .i64 m.size, .int .i64 m.time, .bool m.typesOnly, .int .i64 m.filter.kind, vk, .string (sb m.filter.type), .string (sb m.filter.value), .string (sb m.filter.first), va, .string (sb m.filter.last), vw, vl, vm, .string (sb m.rdn), .bool m.dropOld, .bool m.moves, .string (sb m.sup), .string (sb m.type), .string (sb m.value), .int .i64 m.target, .int .i64 0, .string ⟨#[]⟩, .string ⟨#[]⟩]) (exec_load _ _ rfl w.heap.size 0 rfl [.int .i64 m.id, .int .i64 103, .int .i64 m.ver, .string (sb m.name), .string (sb m.pw), .int .i64 m.scope, .int .i64 m.deref, .int .i64 m.size, .int .i64 m.time, .bool m.typesOnly, .int .i64 m.filter.kind, vk, .string (sb m.filter.type), .string (sb m.filter.value), .string (sb m.filter.first), va, .string (sb m.filter.last), vw, vl, vm, .string (sb m.rdn), .bool m.dropOld, .bool m.moves, .string (sb m.sup), .string (sb m.type), .string (sb m.value), .int .i64 m.target, .int .i64 0, .string ⟨#[]⟩, .string ⟨#[]⟩] _ rfl rfl infoMsg _ (HZ2.out.range 0 _ rfl)) ?_)
      | fail)
    have HMM : MsgC M E s2 { m with code := 0, matched := [], text := [] } (vk) (va) (vw) (vl) (vm) := ⟨⟨H.out.ints.1, H.out.ints.2.1, H.out.ints.2.2.1, H.out.ints.2.2.2.1, H.out.ints.2.2.2.2.1, H.out.ints.2.2.2.2.2.1, H.out.ints.2.2.2.2.2.2.1, H.out.ints.2.2.2.2.2.2.2.1, i64z⟩, ⟨H.out.texts.1, H.out.texts.2.1, H.out.texts.2.2.1, H.out.texts.2.2.2.1, H.out.texts.2.2.2.2.1, H.out.texts.2.2.2.2.2.1, (Nat.zero_le _), (Nat.zero_le _)⟩, H.out.filter.no HW2.out, H.out.wants.no HW2.out, H.out.list.noA HW2.out, H.out.mods.noM HW2.out⟩
    have hcall := pemptyM_any M E { m with code := 0, matched := [], text := [] } (vk) (va) (vw) (vl) (vm) s2 HMM
    have hcells : mcs { m with code := 0, matched := [], text := [] } (vk) (va) (vw) (vl) (vm) = [.int .i64 m.id, .int .i64 103, .int .i64 m.ver, .string (sb m.name), .string (sb m.pw), .int .i64 m.scope, .int .i64 m.deref, .int .i64 m.size, .int .i64 m.time, .bool m.typesOnly, .int .i64 m.filter.kind, vk, .string (sb m.filter.type), .string (sb m.filter.value), .string (sb m.filter.first), va, .string (sb m.filter.last), vw, vl, vm, .string (sb m.rdn), .bool m.dropOld, .bool m.moves, .string (sb m.sup), .string (sb m.type), .string (sb m.value), .int .i64 m.target, .int .i64 0, .string ⟨#[]⟩, .string ⟨#[]⟩] := by unfold mcs; simp only [HOP.out]; try rfl
    rw [hcells] at hcall
    refine hcall.mono ?_
    rintro e w9 ⟨rfl, f9⟩
    rw [HEO.out]
    have HF9 := hid (HW2.out.trans' f9)
    clear f9 hcall hcells HMM
    go_wp2_with fail
    go_ret
    exact ⟨by cases EO <;> rfl, HF9.out⟩
theorem right_105 (m : Msg) (hop : m.op = 105) : rightM m = (inI m.id 0 2147483647 && inI m.code 0 127 && emptyM { m with code := 0, matched := [], text := [] }) := by
  have hmods : m.mods.isEmpty = true → m.mods.all (fun x => inI x.doing 0 2) = true := fun h => by rw [List.isEmpty_iff.1 h]; rfl
  have h0 : emptyF fl0 = true := rfl
  have hn : ([] : B).isEmpty = true := rfl
  rw [Bool.eq_iff_iff]
  simp only [rightM, emptyM, searchOk, hop]
  cases hmv : m.moves <;> simp [namO, ansO, h0] <;> constructor <;> intro h <;> simp_all
set_option maxHeartbeats 16000000 in
theorem pright_105 (M : Nat) (E : Nat → Prop) (m : Msg) (vk va vw vl vm : Value) (w : World) (h : MsgC M E w m vk va vw vl vm) (hop : m.op = 105) : Calls Try.prog 20 #[.agg (mcs m vk va vw vl vm).toArray] w fun e w' => e = .returned (.bool (rightM m)) ∧ Fr No w w' := by
  rw [right_105 m hop]
  have H := hid h; have HOP := hid hop
  have e : mcs m vk va vw vl vm = [.int .i64 m.id, .int .i64 105, .int .i64 m.ver, .string (sb m.name), .string (sb m.pw), .int .i64 m.scope, .int .i64 m.deref, .int .i64 m.size, .int .i64 m.time, .bool m.typesOnly, .int .i64 m.filter.kind, vk, .string (sb m.filter.type), .string (sb m.filter.value), .string (sb m.filter.first), va, .string (sb m.filter.last), vw, vl, vm, .string (sb m.rdn), .bool m.dropOld, .bool m.moves, .string (sb m.sup), .string (sb m.type), .string (sb m.value), .int .i64 m.target, .int .i64 m.code, .string (sb m.matched), .string (sb m.text)] := by unfold mcs; rw [hop]
  rw [e]
  have HE := hid e
  clear e
  clear h hop
  obtain ⟨b0, hb0⟩ : ∃ b, inI m.id 0 2147483647 = b := ⟨_, rfl⟩
  rw [hb0]
  have HB_0 := hid hb0
  clear hb0
  obtain ⟨b1, hb1⟩ : ∃ b, (inI m.code 0 127) = b := ⟨_, rfl⟩
  rw [hb1]
  have HB_1 := hid hb1
  clear hb1
  obtain ⟨EO, hEO⟩ : ∃ b, emptyM { m with code := 0, matched := [], text := [] } = b := ⟨_, rfl⟩
  rw [hEO]
  have HEO := hid hEO
  clear hEO
  go_enter Try.func20, Try.ntmps20
  go_wp2_with (first
    | ((with_reducible refine K.atO (.box 29 _) ?_); refine wpL_box rfl _ _ rfl _ rfl [.int .i64 m.id, .int .i64 105, .int .i64 m.ver, .string (sb m.name), .string (sb m.pw), .int .i64 m.scope, .int .i64 m.deref, .int .i64 m.size, .int .i64 m.time, .bool m.typesOnly, .int .i64 m.filter.kind, vk, .string (sb m.filter.type), .string (sb m.filter.value), .string (sb m.filter.first), va, .string (sb m.filter.last), vw, vl, vm, .string (sb m.rdn), .bool m.dropOld, .bool m.moves, .string (sb m.sup), .string (sb m.type), .string (sb m.value), .int .i64 m.target, .int .i64 m.code, .string (sb m.matched), .string (sb m.text)] rfl ?_; intro w1 HB1 F1 HS1; have c0 : w1.cell? ⟨w.heap.size, 0, none⟩ = some (.int .i64 m.id) := HB1.out.cell 0; have c1 : w1.cell? ⟨w.heap.size, 1, none⟩ = some (.int .i64 105) := HB1.out.cell 1; have c27 : w1.cell? ⟨w.heap.size, 27, none⟩ = some (.int .i64 m.code) := HB1.out.cell 27)
    | fail)
  refine (pnumber_any m.id w1).mono ?_
  rintro e x0 ⟨rfl, hx0⟩
  have hy0 := hx0.symm
  subst hy0
  rw [HB_0.out]
  cases b0 with
  | false =>
    go_wp2_with (first
      | ((with_reducible refine K.atO (.store 3 _ _) ?_); (fail_if_success (have := HZ0)); refine wpL_setV rfl _ _ _ rfl w.heap.size 27 (.int .i64 0) rfl rfl rfl rfl _ _ HB1.out (by simp) infoI0 ?_; intro s0 HY0 FY0 HSY0; have HZ0 := HY0; have HW0 := hid (F1.out.trans FY0.out fun k e => .inr (by have e : k = w.heap.size := e; omega)))
      | ((with_reducible refine K.atO (.store 9 _ _) ?_); (fail_if_success (have := HZ1)); (have := HZ0); refine wpL_setV rfl _ _ _ rfl w.heap.size 28 (.string ⟨#[]⟩) rfl rfl rfl rfl _ _ HZ0.out (by simp) infoS ?_; intro s1 HY1 FY1 HSY1; have HZ1 := HY1; have HW1 := hid (HW0.out.trans FY1.out fun k e => .inr (by have e : k = w.heap.size := e; omega)))
      | ((with_reducible refine K.atO (.store 9 _ _) ?_); (fail_if_success (have := HZ2)); (have := HZ1); refine wpL_setV rfl _ _ _ rfl w.heap.size 29 (.string ⟨#[]⟩) rfl rfl rfl rfl _ _ HZ1.out (by simp) infoS ?_; intro s2 HY2 FY2 HSY2; have HZ2 := HY2; have HW2 := hid (HW1.out.trans FY2.out fun k e => .inr (by have e : k = w.heap.size := e; omega)))
      | fail)
    go_ret
    exact ⟨by simp, HW2.out⟩
  | true =>
  go_wp2_with fail
  refine (pcode_any m.code w1).mono ?_
  rintro e x1 ⟨rfl, hx1⟩
  have hy1 := hx1.symm
  subst hy1
  rw [HB_1.out]
  cases b1 with
  | false =>
    go_wp2_with (first
      | ((with_reducible refine K.atO (.store 3 _ _) ?_); (fail_if_success (have := HZ0)); refine wpL_setV rfl _ _ _ rfl w.heap.size 27 (.int .i64 0) rfl rfl rfl rfl _ _ HB1.out (by simp) infoI0 ?_; intro s0 HY0 FY0 HSY0; have HZ0 := HY0; have HW0 := hid (F1.out.trans FY0.out fun k e => .inr (by have e : k = w.heap.size := e; omega)))
      | ((with_reducible refine K.atO (.store 9 _ _) ?_); (fail_if_success (have := HZ1)); (have := HZ0); refine wpL_setV rfl _ _ _ rfl w.heap.size 28 (.string ⟨#[]⟩) rfl rfl rfl rfl _ _ HZ0.out (by simp) infoS ?_; intro s1 HY1 FY1 HSY1; have HZ1 := HY1; have HW1 := hid (HW0.out.trans FY1.out fun k e => .inr (by have e : k = w.heap.size := e; omega)))
      | ((with_reducible refine K.atO (.store 9 _ _) ?_); (fail_if_success (have := HZ2)); (have := HZ1); refine wpL_setV rfl _ _ _ rfl w.heap.size 29 (.string ⟨#[]⟩) rfl rfl rfl rfl _ _ HZ1.out (by simp) infoS ?_; intro s2 HY2 FY2 HSY2; have HZ2 := HY2; have HW2 := hid (HW1.out.trans FY2.out fun k e => .inr (by have e : k = w.heap.size := e; omega)))
      | fail)
    go_ret
    exact ⟨by simp, HW2.out⟩
  | true =>
    go_wp2_with (first
      | ((with_reducible refine K.atO (.store 3 _ _) ?_); (fail_if_success (have := HZ0)); refine wpL_setV rfl _ _ _ rfl w.heap.size 27 (.int .i64 0) rfl rfl rfl rfl _ _ HB1.out (by simp) infoI0 ?_; intro s0 HY0 FY0 HSY0; have HZ0 := HY0; have HW0 := hid (F1.out.trans FY0.out fun k e => .inr (by have e : k = w.heap.size := e; omega)))
      | ((with_reducible refine K.atO (.store 9 _ _) ?_); (fail_if_success (have := HZ1)); (have := HZ0); refine wpL_setV rfl _ _ _ rfl w.heap.size 28 (.string ⟨#[]⟩) rfl rfl rfl rfl _ _ HZ0.out (by simp) infoS ?_; intro s1 HY1 FY1 HSY1; have HZ1 := HY1; have HW1 := hid (HW0.out.trans FY1.out fun k e => .inr (by have e : k = w.heap.size := e; omega)))
      | ((with_reducible refine K.atO (.store 9 _ _) ?_); (fail_if_success (have := HZ2)); (have := HZ1); refine wpL_setV rfl _ _ _ rfl w.heap.size 29 (.string ⟨#[]⟩) rfl rfl rfl rfl _ _ HZ1.out (by simp) infoS ?_; intro s2 HY2 FY2 HSY2; have HZ2 := HY2; have HW2 := hid (HW1.out.trans FY2.out fun k e => .inr (by have e : k = w.heap.size := e; omega)))
      | ((with_reducible refine K.atO (.load 29 _) ?_); refine wpL_valZ (by rfl) (.agg #[.int .i64 m.id, .int .i64 105, .int .i64 m.ver, .string (sb m.name), .string (sb m.pw), .int .i64 m.scope, .int .i64 m.deref, .int .i64 m.size, .int .i64 m.time, .bool m.typesOnly, .int .i64 m.filter.kind, vk, .string (sb m.filter.type), .string (sb m.filter.value), .string (sb m.filter.first), va, .string (sb m.filter.last), vw, vl, vm, .string (sb m.rdn), .bool m.dropOld, .bool m.moves, .string (sb m.sup), .string (sb m.type), .string (sb m.value), .int .i64 m.target, .int .i64 0, .string ⟨#[]⟩, .string ⟨#[]⟩]) (exec_load _ _ rfl w.heap.size 0 rfl [.int .i64 m.id, .int .i64 105, .int .i64 m.ver, .string (sb m.name), .string (sb m.pw), .int .i64 m.scope, .int .i64 m.deref, .int .i64 m.size, .int .i64 m.time, .bool m.typesOnly, .int .i64 m.filter.kind, vk, .string (sb m.filter.type), .string (sb m.filter.value), .string (sb m.filter.first), va, .string (sb m.filter.last), vw, vl, vm, .string (sb m.rdn), .bool m.dropOld, .bool m.moves, .string (sb m.sup), .string (sb m.type), .string (sb m.value), .int .i64 m.target, .int .i64 0, .string ⟨#[]⟩, .string ⟨#[]⟩] _ rfl rfl infoMsg _ (HZ2.out.range 0 _ rfl)) ?_)
      | fail)
    have HMM : MsgC M E s2 { m with code := 0, matched := [], text := [] } (vk) (va) (vw) (vl) (vm) := ⟨⟨H.out.ints.1, H.out.ints.2.1, H.out.ints.2.2.1, H.out.ints.2.2.2.1, H.out.ints.2.2.2.2.1, H.out.ints.2.2.2.2.2.1, H.out.ints.2.2.2.2.2.2.1, H.out.ints.2.2.2.2.2.2.2.1, i64z⟩, ⟨H.out.texts.1, H.out.texts.2.1, H.out.texts.2.2.1, H.out.texts.2.2.2.1, H.out.texts.2.2.2.2.1, H.out.texts.2.2.2.2.2.1, (Nat.zero_le _), (Nat.zero_le _)⟩, H.out.filter.no HW2.out, H.out.wants.no HW2.out, H.out.list.noA HW2.out, H.out.mods.noM HW2.out⟩
    have hcall := pemptyM_any M E { m with code := 0, matched := [], text := [] } (vk) (va) (vw) (vl) (vm) s2 HMM
    have hcells : mcs { m with code := 0, matched := [], text := [] } (vk) (va) (vw) (vl) (vm) = [.int .i64 m.id, .int .i64 105, .int .i64 m.ver, .string (sb m.name), .string (sb m.pw), .int .i64 m.scope, .int .i64 m.deref, .int .i64 m.size, .int .i64 m.time, .bool m.typesOnly, .int .i64 m.filter.kind, vk, .string (sb m.filter.type), .string (sb m.filter.value), .string (sb m.filter.first), va, .string (sb m.filter.last), vw, vl, vm, .string (sb m.rdn), .bool m.dropOld, .bool m.moves, .string (sb m.sup), .string (sb m.type), .string (sb m.value), .int .i64 m.target, .int .i64 0, .string ⟨#[]⟩, .string ⟨#[]⟩] := by unfold mcs; simp only [HOP.out]; try rfl
    rw [hcells] at hcall
    refine hcall.mono ?_
    rintro e w9 ⟨rfl, f9⟩
    rw [HEO.out]
    have HF9 := hid (HW2.out.trans' f9)
    clear f9 hcall hcells HMM
    go_wp2_with fail
    go_ret
    exact ⟨by cases EO <;> rfl, HF9.out⟩
theorem right_107 (m : Msg) (hop : m.op = 107) : rightM m = (inI m.id 0 2147483647 && inI m.code 0 127 && emptyM { m with code := 0, matched := [], text := [] }) := by
  have hmods : m.mods.isEmpty = true → m.mods.all (fun x => inI x.doing 0 2) = true := fun h => by rw [List.isEmpty_iff.1 h]; rfl
  have h0 : emptyF fl0 = true := rfl
  have hn : ([] : B).isEmpty = true := rfl
  rw [Bool.eq_iff_iff]
  simp only [rightM, emptyM, searchOk, hop]
  cases hmv : m.moves <;> simp [namO, ansO, h0] <;> constructor <;> intro h <;> simp_all
set_option maxHeartbeats 16000000 in
theorem pright_107 (M : Nat) (E : Nat → Prop) (m : Msg) (vk va vw vl vm : Value) (w : World) (h : MsgC M E w m vk va vw vl vm) (hop : m.op = 107) : Calls Try.prog 20 #[.agg (mcs m vk va vw vl vm).toArray] w fun e w' => e = .returned (.bool (rightM m)) ∧ Fr No w w' := by
  rw [right_107 m hop]
  have H := hid h; have HOP := hid hop
  have e : mcs m vk va vw vl vm = [.int .i64 m.id, .int .i64 107, .int .i64 m.ver, .string (sb m.name), .string (sb m.pw), .int .i64 m.scope, .int .i64 m.deref, .int .i64 m.size, .int .i64 m.time, .bool m.typesOnly, .int .i64 m.filter.kind, vk, .string (sb m.filter.type), .string (sb m.filter.value), .string (sb m.filter.first), va, .string (sb m.filter.last), vw, vl, vm, .string (sb m.rdn), .bool m.dropOld, .bool m.moves, .string (sb m.sup), .string (sb m.type), .string (sb m.value), .int .i64 m.target, .int .i64 m.code, .string (sb m.matched), .string (sb m.text)] := by unfold mcs; rw [hop]
  rw [e]
  have HE := hid e
  clear e
  clear h hop
  obtain ⟨b0, hb0⟩ : ∃ b, inI m.id 0 2147483647 = b := ⟨_, rfl⟩
  rw [hb0]
  have HB_0 := hid hb0
  clear hb0
  obtain ⟨b1, hb1⟩ : ∃ b, (inI m.code 0 127) = b := ⟨_, rfl⟩
  rw [hb1]
  have HB_1 := hid hb1
  clear hb1
  obtain ⟨EO, hEO⟩ : ∃ b, emptyM { m with code := 0, matched := [], text := [] } = b := ⟨_, rfl⟩
  rw [hEO]
  have HEO := hid hEO
  clear hEO
  go_enter Try.func20, Try.ntmps20
  go_wp2_with (first
    | ((with_reducible refine K.atO (.box 29 _) ?_); refine wpL_box rfl _ _ rfl _ rfl [.int .i64 m.id, .int .i64 107, .int .i64 m.ver, .string (sb m.name), .string (sb m.pw), .int .i64 m.scope, .int .i64 m.deref, .int .i64 m.size, .int .i64 m.time, .bool m.typesOnly, .int .i64 m.filter.kind, vk, .string (sb m.filter.type), .string (sb m.filter.value), .string (sb m.filter.first), va, .string (sb m.filter.last), vw, vl, vm, .string (sb m.rdn), .bool m.dropOld, .bool m.moves, .string (sb m.sup), .string (sb m.type), .string (sb m.value), .int .i64 m.target, .int .i64 m.code, .string (sb m.matched), .string (sb m.text)] rfl ?_; intro w1 HB1 F1 HS1; have c0 : w1.cell? ⟨w.heap.size, 0, none⟩ = some (.int .i64 m.id) := HB1.out.cell 0; have c1 : w1.cell? ⟨w.heap.size, 1, none⟩ = some (.int .i64 107) := HB1.out.cell 1; have c27 : w1.cell? ⟨w.heap.size, 27, none⟩ = some (.int .i64 m.code) := HB1.out.cell 27)
    | fail)
  refine (pnumber_any m.id w1).mono ?_
  rintro e x0 ⟨rfl, hx0⟩
  have hy0 := hx0.symm
  subst hy0
  rw [HB_0.out]
  cases b0 with
  | false =>
    go_wp2_with (first
      | ((with_reducible refine K.atO (.store 3 _ _) ?_); (fail_if_success (have := HZ0)); refine wpL_setV rfl _ _ _ rfl w.heap.size 27 (.int .i64 0) rfl rfl rfl rfl _ _ HB1.out (by simp) infoI0 ?_; intro s0 HY0 FY0 HSY0; have HZ0 := HY0; have HW0 := hid (F1.out.trans FY0.out fun k e => .inr (by have e : k = w.heap.size := e; omega)))
      | ((with_reducible refine K.atO (.store 9 _ _) ?_); (fail_if_success (have := HZ1)); (have := HZ0); refine wpL_setV rfl _ _ _ rfl w.heap.size 28 (.string ⟨#[]⟩) rfl rfl rfl rfl _ _ HZ0.out (by simp) infoS ?_; intro s1 HY1 FY1 HSY1; have HZ1 := HY1; have HW1 := hid (HW0.out.trans FY1.out fun k e => .inr (by have e : k = w.heap.size := e; omega)))
      | ((with_reducible refine K.atO (.store 9 _ _) ?_); (fail_if_success (have := HZ2)); (have := HZ1); refine wpL_setV rfl _ _ _ rfl w.heap.size 29 (.string ⟨#[]⟩) rfl rfl rfl rfl _ _ HZ1.out (by simp) infoS ?_; intro s2 HY2 FY2 HSY2; have HZ2 := HY2; have HW2 := hid (HW1.out.trans FY2.out fun k e => .inr (by have e : k = w.heap.size := e; omega)))
      | fail)
    go_ret
    exact ⟨by simp, HW2.out⟩
  | true =>
  go_wp2_with fail
  refine (pcode_any m.code w1).mono ?_
  rintro e x1 ⟨rfl, hx1⟩
  have hy1 := hx1.symm
  subst hy1
  rw [HB_1.out]
  cases b1 with
  | false =>
    go_wp2_with (first
      | ((with_reducible refine K.atO (.store 3 _ _) ?_); (fail_if_success (have := HZ0)); refine wpL_setV rfl _ _ _ rfl w.heap.size 27 (.int .i64 0) rfl rfl rfl rfl _ _ HB1.out (by simp) infoI0 ?_; intro s0 HY0 FY0 HSY0; have HZ0 := HY0; have HW0 := hid (F1.out.trans FY0.out fun k e => .inr (by have e : k = w.heap.size := e; omega)))
      | ((with_reducible refine K.atO (.store 9 _ _) ?_); (fail_if_success (have := HZ1)); (have := HZ0); refine wpL_setV rfl _ _ _ rfl w.heap.size 28 (.string ⟨#[]⟩) rfl rfl rfl rfl _ _ HZ0.out (by simp) infoS ?_; intro s1 HY1 FY1 HSY1; have HZ1 := HY1; have HW1 := hid (HW0.out.trans FY1.out fun k e => .inr (by have e : k = w.heap.size := e; omega)))
      | ((with_reducible refine K.atO (.store 9 _ _) ?_); (fail_if_success (have := HZ2)); (have := HZ1); refine wpL_setV rfl _ _ _ rfl w.heap.size 29 (.string ⟨#[]⟩) rfl rfl rfl rfl _ _ HZ1.out (by simp) infoS ?_; intro s2 HY2 FY2 HSY2; have HZ2 := HY2; have HW2 := hid (HW1.out.trans FY2.out fun k e => .inr (by have e : k = w.heap.size := e; omega)))
      | fail)
    go_ret
    exact ⟨by simp, HW2.out⟩
  | true =>
    go_wp2_with (first
      | ((with_reducible refine K.atO (.store 3 _ _) ?_); (fail_if_success (have := HZ0)); refine wpL_setV rfl _ _ _ rfl w.heap.size 27 (.int .i64 0) rfl rfl rfl rfl _ _ HB1.out (by simp) infoI0 ?_; intro s0 HY0 FY0 HSY0; have HZ0 := HY0; have HW0 := hid (F1.out.trans FY0.out fun k e => .inr (by have e : k = w.heap.size := e; omega)))
      | ((with_reducible refine K.atO (.store 9 _ _) ?_); (fail_if_success (have := HZ1)); (have := HZ0); refine wpL_setV rfl _ _ _ rfl w.heap.size 28 (.string ⟨#[]⟩) rfl rfl rfl rfl _ _ HZ0.out (by simp) infoS ?_; intro s1 HY1 FY1 HSY1; have HZ1 := HY1; have HW1 := hid (HW0.out.trans FY1.out fun k e => .inr (by have e : k = w.heap.size := e; omega)))
      | ((with_reducible refine K.atO (.store 9 _ _) ?_); (fail_if_success (have := HZ2)); (have := HZ1); refine wpL_setV rfl _ _ _ rfl w.heap.size 29 (.string ⟨#[]⟩) rfl rfl rfl rfl _ _ HZ1.out (by simp) infoS ?_; intro s2 HY2 FY2 HSY2; have HZ2 := HY2; have HW2 := hid (HW1.out.trans FY2.out fun k e => .inr (by have e : k = w.heap.size := e; omega)))
      | ((with_reducible refine K.atO (.load 29 _) ?_); refine wpL_valZ (by rfl) (.agg #[.int .i64 m.id, .int .i64 107, .int .i64 m.ver, .string (sb m.name), .string (sb m.pw), .int .i64 m.scope, .int .i64 m.deref, .int .i64 m.size, .int .i64 m.time, .bool m.typesOnly, .int .i64 m.filter.kind, vk, .string (sb m.filter.type), .string (sb m.filter.value), .string (sb m.filter.first), va, .string (sb m.filter.last), vw, vl, vm, .string (sb m.rdn), .bool m.dropOld, .bool m.moves, .string (sb m.sup), .string (sb m.type), .string (sb m.value), .int .i64 m.target, .int .i64 0, .string ⟨#[]⟩, .string ⟨#[]⟩]) (exec_load _ _ rfl w.heap.size 0 rfl [.int .i64 m.id, .int .i64 107, .int .i64 m.ver, .string (sb m.name), .string (sb m.pw), .int .i64 m.scope, .int .i64 m.deref, .int .i64 m.size, .int .i64 m.time, .bool m.typesOnly, .int .i64 m.filter.kind, vk, .string (sb m.filter.type), .string (sb m.filter.value), .string (sb m.filter.first), va, .string (sb m.filter.last), vw, vl, vm, .string (sb m.rdn), .bool m.dropOld, .bool m.moves, .string (sb m.sup), .string (sb m.type), .string (sb m.value), .int .i64 m.target, .int .i64 0, .string ⟨#[]⟩, .string ⟨#[]⟩] _ rfl rfl infoMsg _ (HZ2.out.range 0 _ rfl)) ?_)
      | fail)
    have HMM : MsgC M E s2 { m with code := 0, matched := [], text := [] } (vk) (va) (vw) (vl) (vm) := ⟨⟨H.out.ints.1, H.out.ints.2.1, H.out.ints.2.2.1, H.out.ints.2.2.2.1, H.out.ints.2.2.2.2.1, H.out.ints.2.2.2.2.2.1, H.out.ints.2.2.2.2.2.2.1, H.out.ints.2.2.2.2.2.2.2.1, i64z⟩, ⟨H.out.texts.1, H.out.texts.2.1, H.out.texts.2.2.1, H.out.texts.2.2.2.1, H.out.texts.2.2.2.2.1, H.out.texts.2.2.2.2.2.1, (Nat.zero_le _), (Nat.zero_le _)⟩, H.out.filter.no HW2.out, H.out.wants.no HW2.out, H.out.list.noA HW2.out, H.out.mods.noM HW2.out⟩
    have hcall := pemptyM_any M E { m with code := 0, matched := [], text := [] } (vk) (va) (vw) (vl) (vm) s2 HMM
    have hcells : mcs { m with code := 0, matched := [], text := [] } (vk) (va) (vw) (vl) (vm) = [.int .i64 m.id, .int .i64 107, .int .i64 m.ver, .string (sb m.name), .string (sb m.pw), .int .i64 m.scope, .int .i64 m.deref, .int .i64 m.size, .int .i64 m.time, .bool m.typesOnly, .int .i64 m.filter.kind, vk, .string (sb m.filter.type), .string (sb m.filter.value), .string (sb m.filter.first), va, .string (sb m.filter.last), vw, vl, vm, .string (sb m.rdn), .bool m.dropOld, .bool m.moves, .string (sb m.sup), .string (sb m.type), .string (sb m.value), .int .i64 m.target, .int .i64 0, .string ⟨#[]⟩, .string ⟨#[]⟩] := by unfold mcs; simp only [HOP.out]; try rfl
    rw [hcells] at hcall
    refine hcall.mono ?_
    rintro e w9 ⟨rfl, f9⟩
    rw [HEO.out]
    have HF9 := hid (HW2.out.trans' f9)
    clear f9 hcall hcells HMM
    go_wp2_with fail
    go_ret
    exact ⟨by cases EO <;> rfl, HF9.out⟩
theorem right_109 (m : Msg) (hop : m.op = 109) : rightM m = (inI m.id 0 2147483647 && inI m.code 0 127 && emptyM { m with code := 0, matched := [], text := [] }) := by
  have hmods : m.mods.isEmpty = true → m.mods.all (fun x => inI x.doing 0 2) = true := fun h => by rw [List.isEmpty_iff.1 h]; rfl
  have h0 : emptyF fl0 = true := rfl
  have hn : ([] : B).isEmpty = true := rfl
  rw [Bool.eq_iff_iff]
  simp only [rightM, emptyM, searchOk, hop]
  cases hmv : m.moves <;> simp [namO, ansO, h0] <;> constructor <;> intro h <;> simp_all
set_option maxHeartbeats 16000000 in
theorem pright_109 (M : Nat) (E : Nat → Prop) (m : Msg) (vk va vw vl vm : Value) (w : World) (h : MsgC M E w m vk va vw vl vm) (hop : m.op = 109) : Calls Try.prog 20 #[.agg (mcs m vk va vw vl vm).toArray] w fun e w' => e = .returned (.bool (rightM m)) ∧ Fr No w w' := by
  rw [right_109 m hop]
  have H := hid h; have HOP := hid hop
  have e : mcs m vk va vw vl vm = [.int .i64 m.id, .int .i64 109, .int .i64 m.ver, .string (sb m.name), .string (sb m.pw), .int .i64 m.scope, .int .i64 m.deref, .int .i64 m.size, .int .i64 m.time, .bool m.typesOnly, .int .i64 m.filter.kind, vk, .string (sb m.filter.type), .string (sb m.filter.value), .string (sb m.filter.first), va, .string (sb m.filter.last), vw, vl, vm, .string (sb m.rdn), .bool m.dropOld, .bool m.moves, .string (sb m.sup), .string (sb m.type), .string (sb m.value), .int .i64 m.target, .int .i64 m.code, .string (sb m.matched), .string (sb m.text)] := by unfold mcs; rw [hop]
  rw [e]
  have HE := hid e
  clear e
  clear h hop
  obtain ⟨b0, hb0⟩ : ∃ b, inI m.id 0 2147483647 = b := ⟨_, rfl⟩
  rw [hb0]
  have HB_0 := hid hb0
  clear hb0
  obtain ⟨b1, hb1⟩ : ∃ b, (inI m.code 0 127) = b := ⟨_, rfl⟩
  rw [hb1]
  have HB_1 := hid hb1
  clear hb1
  obtain ⟨EO, hEO⟩ : ∃ b, emptyM { m with code := 0, matched := [], text := [] } = b := ⟨_, rfl⟩
  rw [hEO]
  have HEO := hid hEO
  clear hEO
  go_enter Try.func20, Try.ntmps20
  go_wp2_with (first
    | ((with_reducible refine K.atO (.box 29 _) ?_); refine wpL_box rfl _ _ rfl _ rfl [.int .i64 m.id, .int .i64 109, .int .i64 m.ver, .string (sb m.name), .string (sb m.pw), .int .i64 m.scope, .int .i64 m.deref, .int .i64 m.size, .int .i64 m.time, .bool m.typesOnly, .int .i64 m.filter.kind, vk, .string (sb m.filter.type), .string (sb m.filter.value), .string (sb m.filter.first), va, .string (sb m.filter.last), vw, vl, vm, .string (sb m.rdn), .bool m.dropOld, .bool m.moves, .string (sb m.sup), .string (sb m.type), .string (sb m.value), .int .i64 m.target, .int .i64 m.code, .string (sb m.matched), .string (sb m.text)] rfl ?_; intro w1 HB1 F1 HS1; have c0 : w1.cell? ⟨w.heap.size, 0, none⟩ = some (.int .i64 m.id) := HB1.out.cell 0; have c1 : w1.cell? ⟨w.heap.size, 1, none⟩ = some (.int .i64 109) := HB1.out.cell 1; have c27 : w1.cell? ⟨w.heap.size, 27, none⟩ = some (.int .i64 m.code) := HB1.out.cell 27)
    | fail)
  refine (pnumber_any m.id w1).mono ?_
  rintro e x0 ⟨rfl, hx0⟩
  have hy0 := hx0.symm
  subst hy0
  rw [HB_0.out]
  cases b0 with
  | false =>
    go_wp2_with (first
      | ((with_reducible refine K.atO (.store 3 _ _) ?_); (fail_if_success (have := HZ0)); refine wpL_setV rfl _ _ _ rfl w.heap.size 27 (.int .i64 0) rfl rfl rfl rfl _ _ HB1.out (by simp) infoI0 ?_; intro s0 HY0 FY0 HSY0; have HZ0 := HY0; have HW0 := hid (F1.out.trans FY0.out fun k e => .inr (by have e : k = w.heap.size := e; omega)))
      | ((with_reducible refine K.atO (.store 9 _ _) ?_); (fail_if_success (have := HZ1)); (have := HZ0); refine wpL_setV rfl _ _ _ rfl w.heap.size 28 (.string ⟨#[]⟩) rfl rfl rfl rfl _ _ HZ0.out (by simp) infoS ?_; intro s1 HY1 FY1 HSY1; have HZ1 := HY1; have HW1 := hid (HW0.out.trans FY1.out fun k e => .inr (by have e : k = w.heap.size := e; omega)))
      | ((with_reducible refine K.atO (.store 9 _ _) ?_); (fail_if_success (have := HZ2)); (have := HZ1); refine wpL_setV rfl _ _ _ rfl w.heap.size 29 (.string ⟨#[]⟩) rfl rfl rfl rfl _ _ HZ1.out (by simp) infoS ?_; intro s2 HY2 FY2 HSY2; have HZ2 := HY2; have HW2 := hid (HW1.out.trans FY2.out fun k e => .inr (by have e : k = w.heap.size := e; omega)))
      | fail)
    go_ret
    exact ⟨by simp, HW2.out⟩
  | true =>
  go_wp2_with fail
  refine (pcode_any m.code w1).mono ?_
  rintro e x1 ⟨rfl, hx1⟩
  have hy1 := hx1.symm
  subst hy1
  rw [HB_1.out]
  cases b1 with
  | false =>
    go_wp2_with (first
      | ((with_reducible refine K.atO (.store 3 _ _) ?_); (fail_if_success (have := HZ0)); refine wpL_setV rfl _ _ _ rfl w.heap.size 27 (.int .i64 0) rfl rfl rfl rfl _ _ HB1.out (by simp) infoI0 ?_; intro s0 HY0 FY0 HSY0; have HZ0 := HY0; have HW0 := hid (F1.out.trans FY0.out fun k e => .inr (by have e : k = w.heap.size := e; omega)))
      | ((with_reducible refine K.atO (.store 9 _ _) ?_); (fail_if_success (have := HZ1)); (have := HZ0); refine wpL_setV rfl _ _ _ rfl w.heap.size 28 (.string ⟨#[]⟩) rfl rfl rfl rfl _ _ HZ0.out (by simp) infoS ?_; intro s1 HY1 FY1 HSY1; have HZ1 := HY1; have HW1 := hid (HW0.out.trans FY1.out fun k e => .inr (by have e : k = w.heap.size := e; omega)))
      | ((with_reducible refine K.atO (.store 9 _ _) ?_); (fail_if_success (have := HZ2)); (have := HZ1); refine wpL_setV rfl _ _ _ rfl w.heap.size 29 (.string ⟨#[]⟩) rfl rfl rfl rfl _ _ HZ1.out (by simp) infoS ?_; intro s2 HY2 FY2 HSY2; have HZ2 := HY2; have HW2 := hid (HW1.out.trans FY2.out fun k e => .inr (by have e : k = w.heap.size := e; omega)))
      | fail)
    go_ret
    exact ⟨by simp, HW2.out⟩
  | true =>
    go_wp2_with (first
      | ((with_reducible refine K.atO (.store 3 _ _) ?_); (fail_if_success (have := HZ0)); refine wpL_setV rfl _ _ _ rfl w.heap.size 27 (.int .i64 0) rfl rfl rfl rfl _ _ HB1.out (by simp) infoI0 ?_; intro s0 HY0 FY0 HSY0; have HZ0 := HY0; have HW0 := hid (F1.out.trans FY0.out fun k e => .inr (by have e : k = w.heap.size := e; omega)))
      | ((with_reducible refine K.atO (.store 9 _ _) ?_); (fail_if_success (have := HZ1)); (have := HZ0); refine wpL_setV rfl _ _ _ rfl w.heap.size 28 (.string ⟨#[]⟩) rfl rfl rfl rfl _ _ HZ0.out (by simp) infoS ?_; intro s1 HY1 FY1 HSY1; have HZ1 := HY1; have HW1 := hid (HW0.out.trans FY1.out fun k e => .inr (by have e : k = w.heap.size := e; omega)))
      | ((with_reducible refine K.atO (.store 9 _ _) ?_); (fail_if_success (have := HZ2)); (have := HZ1); refine wpL_setV rfl _ _ _ rfl w.heap.size 29 (.string ⟨#[]⟩) rfl rfl rfl rfl _ _ HZ1.out (by simp) infoS ?_; intro s2 HY2 FY2 HSY2; have HZ2 := HY2; have HW2 := hid (HW1.out.trans FY2.out fun k e => .inr (by have e : k = w.heap.size := e; omega)))
      | ((with_reducible refine K.atO (.load 29 _) ?_); refine wpL_valZ (by rfl) (.agg #[.int .i64 m.id, .int .i64 109, .int .i64 m.ver, .string (sb m.name), .string (sb m.pw), .int .i64 m.scope, .int .i64 m.deref, .int .i64 m.size, .int .i64 m.time, .bool m.typesOnly, .int .i64 m.filter.kind, vk, .string (sb m.filter.type), .string (sb m.filter.value), .string (sb m.filter.first), va, .string (sb m.filter.last), vw, vl, vm, .string (sb m.rdn), .bool m.dropOld, .bool m.moves, .string (sb m.sup), .string (sb m.type), .string (sb m.value), .int .i64 m.target, .int .i64 0, .string ⟨#[]⟩, .string ⟨#[]⟩]) (exec_load _ _ rfl w.heap.size 0 rfl [.int .i64 m.id, .int .i64 109, .int .i64 m.ver, .string (sb m.name), .string (sb m.pw), .int .i64 m.scope, .int .i64 m.deref, .int .i64 m.size, .int .i64 m.time, .bool m.typesOnly, .int .i64 m.filter.kind, vk, .string (sb m.filter.type), .string (sb m.filter.value), .string (sb m.filter.first), va, .string (sb m.filter.last), vw, vl, vm, .string (sb m.rdn), .bool m.dropOld, .bool m.moves, .string (sb m.sup), .string (sb m.type), .string (sb m.value), .int .i64 m.target, .int .i64 0, .string ⟨#[]⟩, .string ⟨#[]⟩] _ rfl rfl infoMsg _ (HZ2.out.range 0 _ rfl)) ?_)
      | fail)
    have HMM : MsgC M E s2 { m with code := 0, matched := [], text := [] } (vk) (va) (vw) (vl) (vm) := ⟨⟨H.out.ints.1, H.out.ints.2.1, H.out.ints.2.2.1, H.out.ints.2.2.2.1, H.out.ints.2.2.2.2.1, H.out.ints.2.2.2.2.2.1, H.out.ints.2.2.2.2.2.2.1, H.out.ints.2.2.2.2.2.2.2.1, i64z⟩, ⟨H.out.texts.1, H.out.texts.2.1, H.out.texts.2.2.1, H.out.texts.2.2.2.1, H.out.texts.2.2.2.2.1, H.out.texts.2.2.2.2.2.1, (Nat.zero_le _), (Nat.zero_le _)⟩, H.out.filter.no HW2.out, H.out.wants.no HW2.out, H.out.list.noA HW2.out, H.out.mods.noM HW2.out⟩
    have hcall := pemptyM_any M E { m with code := 0, matched := [], text := [] } (vk) (va) (vw) (vl) (vm) s2 HMM
    have hcells : mcs { m with code := 0, matched := [], text := [] } (vk) (va) (vw) (vl) (vm) = [.int .i64 m.id, .int .i64 109, .int .i64 m.ver, .string (sb m.name), .string (sb m.pw), .int .i64 m.scope, .int .i64 m.deref, .int .i64 m.size, .int .i64 m.time, .bool m.typesOnly, .int .i64 m.filter.kind, vk, .string (sb m.filter.type), .string (sb m.filter.value), .string (sb m.filter.first), va, .string (sb m.filter.last), vw, vl, vm, .string (sb m.rdn), .bool m.dropOld, .bool m.moves, .string (sb m.sup), .string (sb m.type), .string (sb m.value), .int .i64 m.target, .int .i64 0, .string ⟨#[]⟩, .string ⟨#[]⟩] := by unfold mcs; simp only [HOP.out]; try rfl
    rw [hcells] at hcall
    refine hcall.mono ?_
    rintro e w9 ⟨rfl, f9⟩
    rw [HEO.out]
    have HF9 := hid (HW2.out.trans' f9)
    clear f9 hcall hcells HMM
    go_wp2_with fail
    go_ret
    exact ⟨by cases EO <;> rfl, HF9.out⟩
theorem right_111 (m : Msg) (hop : m.op = 111) : rightM m = (inI m.id 0 2147483647 && inI m.code 0 127 && emptyM { m with code := 0, matched := [], text := [] }) := by
  have hmods : m.mods.isEmpty = true → m.mods.all (fun x => inI x.doing 0 2) = true := fun h => by rw [List.isEmpty_iff.1 h]; rfl
  have h0 : emptyF fl0 = true := rfl
  have hn : ([] : B).isEmpty = true := rfl
  rw [Bool.eq_iff_iff]
  simp only [rightM, emptyM, searchOk, hop]
  cases hmv : m.moves <;> simp [namO, ansO, h0] <;> constructor <;> intro h <;> simp_all
set_option maxHeartbeats 16000000 in
theorem pright_111 (M : Nat) (E : Nat → Prop) (m : Msg) (vk va vw vl vm : Value) (w : World) (h : MsgC M E w m vk va vw vl vm) (hop : m.op = 111) : Calls Try.prog 20 #[.agg (mcs m vk va vw vl vm).toArray] w fun e w' => e = .returned (.bool (rightM m)) ∧ Fr No w w' := by
  rw [right_111 m hop]
  have H := hid h; have HOP := hid hop
  have e : mcs m vk va vw vl vm = [.int .i64 m.id, .int .i64 111, .int .i64 m.ver, .string (sb m.name), .string (sb m.pw), .int .i64 m.scope, .int .i64 m.deref, .int .i64 m.size, .int .i64 m.time, .bool m.typesOnly, .int .i64 m.filter.kind, vk, .string (sb m.filter.type), .string (sb m.filter.value), .string (sb m.filter.first), va, .string (sb m.filter.last), vw, vl, vm, .string (sb m.rdn), .bool m.dropOld, .bool m.moves, .string (sb m.sup), .string (sb m.type), .string (sb m.value), .int .i64 m.target, .int .i64 m.code, .string (sb m.matched), .string (sb m.text)] := by unfold mcs; rw [hop]
  rw [e]
  have HE := hid e
  clear e
  clear h hop
  obtain ⟨b0, hb0⟩ : ∃ b, inI m.id 0 2147483647 = b := ⟨_, rfl⟩
  rw [hb0]
  have HB_0 := hid hb0
  clear hb0
  obtain ⟨b1, hb1⟩ : ∃ b, (inI m.code 0 127) = b := ⟨_, rfl⟩
  rw [hb1]
  have HB_1 := hid hb1
  clear hb1
  obtain ⟨EO, hEO⟩ : ∃ b, emptyM { m with code := 0, matched := [], text := [] } = b := ⟨_, rfl⟩
  rw [hEO]
  have HEO := hid hEO
  clear hEO
  go_enter Try.func20, Try.ntmps20
  go_wp2_with (first
    | ((with_reducible refine K.atO (.box 29 _) ?_); refine wpL_box rfl _ _ rfl _ rfl [.int .i64 m.id, .int .i64 111, .int .i64 m.ver, .string (sb m.name), .string (sb m.pw), .int .i64 m.scope, .int .i64 m.deref, .int .i64 m.size, .int .i64 m.time, .bool m.typesOnly, .int .i64 m.filter.kind, vk, .string (sb m.filter.type), .string (sb m.filter.value), .string (sb m.filter.first), va, .string (sb m.filter.last), vw, vl, vm, .string (sb m.rdn), .bool m.dropOld, .bool m.moves, .string (sb m.sup), .string (sb m.type), .string (sb m.value), .int .i64 m.target, .int .i64 m.code, .string (sb m.matched), .string (sb m.text)] rfl ?_; intro w1 HB1 F1 HS1; have c0 : w1.cell? ⟨w.heap.size, 0, none⟩ = some (.int .i64 m.id) := HB1.out.cell 0; have c1 : w1.cell? ⟨w.heap.size, 1, none⟩ = some (.int .i64 111) := HB1.out.cell 1; have c27 : w1.cell? ⟨w.heap.size, 27, none⟩ = some (.int .i64 m.code) := HB1.out.cell 27)
    | fail)
  refine (pnumber_any m.id w1).mono ?_
  rintro e x0 ⟨rfl, hx0⟩
  have hy0 := hx0.symm
  subst hy0
  rw [HB_0.out]
  cases b0 with
  | false =>
    go_wp2_with (first
      | ((with_reducible refine K.atO (.store 3 _ _) ?_); (fail_if_success (have := HZ0)); refine wpL_setV rfl _ _ _ rfl w.heap.size 27 (.int .i64 0) rfl rfl rfl rfl _ _ HB1.out (by simp) infoI0 ?_; intro s0 HY0 FY0 HSY0; have HZ0 := HY0; have HW0 := hid (F1.out.trans FY0.out fun k e => .inr (by have e : k = w.heap.size := e; omega)))
      | ((with_reducible refine K.atO (.store 9 _ _) ?_); (fail_if_success (have := HZ1)); (have := HZ0); refine wpL_setV rfl _ _ _ rfl w.heap.size 28 (.string ⟨#[]⟩) rfl rfl rfl rfl _ _ HZ0.out (by simp) infoS ?_; intro s1 HY1 FY1 HSY1; have HZ1 := HY1; have HW1 := hid (HW0.out.trans FY1.out fun k e => .inr (by have e : k = w.heap.size := e; omega)))
      | ((with_reducible refine K.atO (.store 9 _ _) ?_); (fail_if_success (have := HZ2)); (have := HZ1); refine wpL_setV rfl _ _ _ rfl w.heap.size 29 (.string ⟨#[]⟩) rfl rfl rfl rfl _ _ HZ1.out (by simp) infoS ?_; intro s2 HY2 FY2 HSY2; have HZ2 := HY2; have HW2 := hid (HW1.out.trans FY2.out fun k e => .inr (by have e : k = w.heap.size := e; omega)))
      | fail)
    go_ret
    exact ⟨by simp, HW2.out⟩
  | true =>
  go_wp2_with fail
  refine (pcode_any m.code w1).mono ?_
  rintro e x1 ⟨rfl, hx1⟩
  have hy1 := hx1.symm
  subst hy1
  rw [HB_1.out]
  cases b1 with
  | false =>
    go_wp2_with (first
      | ((with_reducible refine K.atO (.store 3 _ _) ?_); (fail_if_success (have := HZ0)); refine wpL_setV rfl _ _ _ rfl w.heap.size 27 (.int .i64 0) rfl rfl rfl rfl _ _ HB1.out (by simp) infoI0 ?_; intro s0 HY0 FY0 HSY0; have HZ0 := HY0; have HW0 := hid (F1.out.trans FY0.out fun k e => .inr (by have e : k = w.heap.size := e; omega)))
      | ((with_reducible refine K.atO (.store 9 _ _) ?_); (fail_if_success (have := HZ1)); (have := HZ0); refine wpL_setV rfl _ _ _ rfl w.heap.size 28 (.string ⟨#[]⟩) rfl rfl rfl rfl _ _ HZ0.out (by simp) infoS ?_; intro s1 HY1 FY1 HSY1; have HZ1 := HY1; have HW1 := hid (HW0.out.trans FY1.out fun k e => .inr (by have e : k = w.heap.size := e; omega)))
      | ((with_reducible refine K.atO (.store 9 _ _) ?_); (fail_if_success (have := HZ2)); (have := HZ1); refine wpL_setV rfl _ _ _ rfl w.heap.size 29 (.string ⟨#[]⟩) rfl rfl rfl rfl _ _ HZ1.out (by simp) infoS ?_; intro s2 HY2 FY2 HSY2; have HZ2 := HY2; have HW2 := hid (HW1.out.trans FY2.out fun k e => .inr (by have e : k = w.heap.size := e; omega)))
      | fail)
    go_ret
    exact ⟨by simp, HW2.out⟩
  | true =>
    go_wp2_with (first
      | ((with_reducible refine K.atO (.store 3 _ _) ?_); (fail_if_success (have := HZ0)); refine wpL_setV rfl _ _ _ rfl w.heap.size 27 (.int .i64 0) rfl rfl rfl rfl _ _ HB1.out (by simp) infoI0 ?_; intro s0 HY0 FY0 HSY0; have HZ0 := HY0; have HW0 := hid (F1.out.trans FY0.out fun k e => .inr (by have e : k = w.heap.size := e; omega)))
      | ((with_reducible refine K.atO (.store 9 _ _) ?_); (fail_if_success (have := HZ1)); (have := HZ0); refine wpL_setV rfl _ _ _ rfl w.heap.size 28 (.string ⟨#[]⟩) rfl rfl rfl rfl _ _ HZ0.out (by simp) infoS ?_; intro s1 HY1 FY1 HSY1; have HZ1 := HY1; have HW1 := hid (HW0.out.trans FY1.out fun k e => .inr (by have e : k = w.heap.size := e; omega)))
      | ((with_reducible refine K.atO (.store 9 _ _) ?_); (fail_if_success (have := HZ2)); (have := HZ1); refine wpL_setV rfl _ _ _ rfl w.heap.size 29 (.string ⟨#[]⟩) rfl rfl rfl rfl _ _ HZ1.out (by simp) infoS ?_; intro s2 HY2 FY2 HSY2; have HZ2 := HY2; have HW2 := hid (HW1.out.trans FY2.out fun k e => .inr (by have e : k = w.heap.size := e; omega)))
      | ((with_reducible refine K.atO (.load 29 _) ?_); refine wpL_valZ (by rfl) (.agg #[.int .i64 m.id, .int .i64 111, .int .i64 m.ver, .string (sb m.name), .string (sb m.pw), .int .i64 m.scope, .int .i64 m.deref, .int .i64 m.size, .int .i64 m.time, .bool m.typesOnly, .int .i64 m.filter.kind, vk, .string (sb m.filter.type), .string (sb m.filter.value), .string (sb m.filter.first), va, .string (sb m.filter.last), vw, vl, vm, .string (sb m.rdn), .bool m.dropOld, .bool m.moves, .string (sb m.sup), .string (sb m.type), .string (sb m.value), .int .i64 m.target, .int .i64 0, .string ⟨#[]⟩, .string ⟨#[]⟩]) (exec_load _ _ rfl w.heap.size 0 rfl [.int .i64 m.id, .int .i64 111, .int .i64 m.ver, .string (sb m.name), .string (sb m.pw), .int .i64 m.scope, .int .i64 m.deref, .int .i64 m.size, .int .i64 m.time, .bool m.typesOnly, .int .i64 m.filter.kind, vk, .string (sb m.filter.type), .string (sb m.filter.value), .string (sb m.filter.first), va, .string (sb m.filter.last), vw, vl, vm, .string (sb m.rdn), .bool m.dropOld, .bool m.moves, .string (sb m.sup), .string (sb m.type), .string (sb m.value), .int .i64 m.target, .int .i64 0, .string ⟨#[]⟩, .string ⟨#[]⟩] _ rfl rfl infoMsg _ (HZ2.out.range 0 _ rfl)) ?_)
      | fail)
    have HMM : MsgC M E s2 { m with code := 0, matched := [], text := [] } (vk) (va) (vw) (vl) (vm) := ⟨⟨H.out.ints.1, H.out.ints.2.1, H.out.ints.2.2.1, H.out.ints.2.2.2.1, H.out.ints.2.2.2.2.1, H.out.ints.2.2.2.2.2.1, H.out.ints.2.2.2.2.2.2.1, H.out.ints.2.2.2.2.2.2.2.1, i64z⟩, ⟨H.out.texts.1, H.out.texts.2.1, H.out.texts.2.2.1, H.out.texts.2.2.2.1, H.out.texts.2.2.2.2.1, H.out.texts.2.2.2.2.2.1, (Nat.zero_le _), (Nat.zero_le _)⟩, H.out.filter.no HW2.out, H.out.wants.no HW2.out, H.out.list.noA HW2.out, H.out.mods.noM HW2.out⟩
    have hcall := pemptyM_any M E { m with code := 0, matched := [], text := [] } (vk) (va) (vw) (vl) (vm) s2 HMM
    have hcells : mcs { m with code := 0, matched := [], text := [] } (vk) (va) (vw) (vl) (vm) = [.int .i64 m.id, .int .i64 111, .int .i64 m.ver, .string (sb m.name), .string (sb m.pw), .int .i64 m.scope, .int .i64 m.deref, .int .i64 m.size, .int .i64 m.time, .bool m.typesOnly, .int .i64 m.filter.kind, vk, .string (sb m.filter.type), .string (sb m.filter.value), .string (sb m.filter.first), va, .string (sb m.filter.last), vw, vl, vm, .string (sb m.rdn), .bool m.dropOld, .bool m.moves, .string (sb m.sup), .string (sb m.type), .string (sb m.value), .int .i64 m.target, .int .i64 0, .string ⟨#[]⟩, .string ⟨#[]⟩] := by unfold mcs; simp only [HOP.out]; try rfl
    rw [hcells] at hcall
    refine hcall.mono ?_
    rintro e w9 ⟨rfl, f9⟩
    rw [HEO.out]
    have HF9 := hid (HW2.out.trans' f9)
    clear f9 hcall hcells HMM
    go_wp2_with fail
    go_ret
    exact ⟨by cases EO <;> rfl, HF9.out⟩
end Go.Proofs.Ythjmkfpdbbfcpaa.ME
