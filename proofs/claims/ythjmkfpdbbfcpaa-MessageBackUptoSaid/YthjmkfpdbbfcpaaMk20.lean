/-
  Part 20 of the proof: MpI1.
-/
import Derived.Test.YthjmkfpdbbfcpaaMk12
set_option linter.unusedSimpArgs false
set_option linter.unusedVariables false
namespace Go.Proofs.Ythjmkfpdbbfcpaa.ME
set_option maxRecDepth 100000
open Go.RowKit K Go.Proofs.Ythjmkfpdbbfcpaa.BE Go.Proofs.Ythjmkfpdbbfcpaa.FR

theorem right_66 (m : Msg) (hop : m.op = 66) : rightM m = (inI m.id 0 2147483647 && emptyM m) := by
  have hmods : m.mods.isEmpty = true → m.mods.all (fun x => inI x.doing 0 2) = true := fun h => by rw [List.isEmpty_iff.1 h]; rfl
  have h0 : emptyF fl0 = true := rfl
  have hn : ([] : B).isEmpty = true := rfl
  rw [Bool.eq_iff_iff]
  simp only [rightM, emptyM, searchOk, hop]
  cases hmv : m.moves <;> simp [namO, ansO, h0] <;> constructor <;> intro h <;> simp_all
set_option maxHeartbeats 16000000 in
theorem pright_66 (M : Nat) (E : Nat → Prop) (m : Msg) (vk va vw vl vm : Value) (w : World) (h : MsgC M E w m vk va vw vl vm) (hop : m.op = 66) : Calls Try.prog 20 #[.agg (mcs m vk va vw vl vm).toArray] w fun e w' => e = .returned (.bool (rightM m)) ∧ Fr No w w' := by
  rw [right_66 m hop]
  have H := hid h; have HOP := hid hop
  have e : mcs m vk va vw vl vm = [.int .i64 m.id, .int .i64 66, .int .i64 m.ver, .string (sb m.name), .string (sb m.pw), .int .i64 m.scope, .int .i64 m.deref, .int .i64 m.size, .int .i64 m.time, .bool m.typesOnly, .int .i64 m.filter.kind, vk, .string (sb m.filter.type), .string (sb m.filter.value), .string (sb m.filter.first), va, .string (sb m.filter.last), vw, vl, vm, .string (sb m.rdn), .bool m.dropOld, .bool m.moves, .string (sb m.sup), .string (sb m.type), .string (sb m.value), .int .i64 m.target, .int .i64 m.code, .string (sb m.matched), .string (sb m.text)] := by unfold mcs; rw [hop]
  rw [e]
  have HE := hid e
  clear e
  clear h hop
  obtain ⟨b0, hb0⟩ : ∃ b, inI m.id 0 2147483647 = b := ⟨_, rfl⟩
  rw [hb0]
  have HB_0 := hid hb0
  clear hb0
  obtain ⟨EO, hEO⟩ : ∃ b, emptyM m = b := ⟨_, rfl⟩
  rw [hEO]
  have HEO := hid hEO
  clear hEO
  go_enter Try.func20, Try.ntmps20
  go_wp2_with (first
    | ((with_reducible refine K.atO (.box 29 _) ?_); refine wpL_box rfl _ _ rfl _ rfl [.int .i64 m.id, .int .i64 66, .int .i64 m.ver, .string (sb m.name), .string (sb m.pw), .int .i64 m.scope, .int .i64 m.deref, .int .i64 m.size, .int .i64 m.time, .bool m.typesOnly, .int .i64 m.filter.kind, vk, .string (sb m.filter.type), .string (sb m.filter.value), .string (sb m.filter.first), va, .string (sb m.filter.last), vw, vl, vm, .string (sb m.rdn), .bool m.dropOld, .bool m.moves, .string (sb m.sup), .string (sb m.type), .string (sb m.value), .int .i64 m.target, .int .i64 m.code, .string (sb m.matched), .string (sb m.text)] rfl ?_; intro w1 HB1 F1 HS1; have c0 : w1.cell? ⟨w.heap.size, 0, none⟩ = some (.int .i64 m.id) := HB1.out.cell 0; have c1 : w1.cell? ⟨w.heap.size, 1, none⟩ = some (.int .i64 66) := HB1.out.cell 1)
    | fail)
  refine (pnumber_any m.id w1).mono ?_
  rintro e x0 ⟨rfl, hx0⟩
  have hy0 := hx0.symm
  subst hy0
  rw [HB_0.out]
  cases b0 with
  | false =>
    go_wp2_with fail
    go_ret
    exact ⟨by simp, F1.out⟩
  | true =>
  go_wp2_with (first
    | ((with_reducible refine K.atO (.load 29 _) ?_); refine wpL_valZ (by rfl) (.agg #[.int .i64 m.id, .int .i64 66, .int .i64 m.ver, .string (sb m.name), .string (sb m.pw), .int .i64 m.scope, .int .i64 m.deref, .int .i64 m.size, .int .i64 m.time, .bool m.typesOnly, .int .i64 m.filter.kind, vk, .string (sb m.filter.type), .string (sb m.filter.value), .string (sb m.filter.first), va, .string (sb m.filter.last), vw, vl, vm, .string (sb m.rdn), .bool m.dropOld, .bool m.moves, .string (sb m.sup), .string (sb m.type), .string (sb m.value), .int .i64 m.target, .int .i64 m.code, .string (sb m.matched), .string (sb m.text)]) (exec_load _ _ rfl w.heap.size 0 rfl [.int .i64 m.id, .int .i64 66, .int .i64 m.ver, .string (sb m.name), .string (sb m.pw), .int .i64 m.scope, .int .i64 m.deref, .int .i64 m.size, .int .i64 m.time, .bool m.typesOnly, .int .i64 m.filter.kind, vk, .string (sb m.filter.type), .string (sb m.filter.value), .string (sb m.filter.first), va, .string (sb m.filter.last), vw, vl, vm, .string (sb m.rdn), .bool m.dropOld, .bool m.moves, .string (sb m.sup), .string (sb m.type), .string (sb m.value), .int .i64 m.target, .int .i64 m.code, .string (sb m.matched), .string (sb m.text)] _ rfl rfl infoMsg _ (HB1.out.range 0 _ rfl)) ?_)
    | fail)
  have HMM : MsgC M E w1 m (vk) (va) (vw) (vl) (vm) := ⟨⟨H.out.ints.1, H.out.ints.2.1, H.out.ints.2.2.1, H.out.ints.2.2.2.1, H.out.ints.2.2.2.2.1, H.out.ints.2.2.2.2.2.1, H.out.ints.2.2.2.2.2.2.1, H.out.ints.2.2.2.2.2.2.2.1, H.out.ints.2.2.2.2.2.2.2.2⟩, ⟨H.out.texts.1, H.out.texts.2.1, H.out.texts.2.2.1, H.out.texts.2.2.2.1, H.out.texts.2.2.2.2.1, H.out.texts.2.2.2.2.2.1, H.out.texts.2.2.2.2.2.2.1, H.out.texts.2.2.2.2.2.2.2⟩, H.out.filter.no F1.out, H.out.wants.no F1.out, H.out.list.noA F1.out, H.out.mods.noM F1.out⟩
  have hcall := pemptyM_any M E m (vk) (va) (vw) (vl) (vm) w1 HMM
  have hcells : mcs m (vk) (va) (vw) (vl) (vm) = [.int .i64 m.id, .int .i64 66, .int .i64 m.ver, .string (sb m.name), .string (sb m.pw), .int .i64 m.scope, .int .i64 m.deref, .int .i64 m.size, .int .i64 m.time, .bool m.typesOnly, .int .i64 m.filter.kind, vk, .string (sb m.filter.type), .string (sb m.filter.value), .string (sb m.filter.first), va, .string (sb m.filter.last), vw, vl, vm, .string (sb m.rdn), .bool m.dropOld, .bool m.moves, .string (sb m.sup), .string (sb m.type), .string (sb m.value), .int .i64 m.target, .int .i64 m.code, .string (sb m.matched), .string (sb m.text)] := by unfold mcs; simp only [HOP.out]; try rfl
  rw [hcells] at hcall
  refine hcall.mono ?_
  rintro e w9 ⟨rfl, f9⟩
  rw [HEO.out]
  have HF9 := hid (F1.out.trans' f9)
  clear f9 hcall hcells HMM
  go_wp2_with fail
  go_ret
  exact ⟨by cases EO <;> rfl, HF9.out⟩
theorem right_96 (m : Msg) (hop : m.op = 96) : rightM m = (inI m.id 0 2147483647 && inI m.ver 1 127 && emptyM { m with ver := 0, name := [], pw := [] }) := by
  have hmods : m.mods.isEmpty = true → m.mods.all (fun x => inI x.doing 0 2) = true := fun h => by rw [List.isEmpty_iff.1 h]; rfl
  have h0 : emptyF fl0 = true := rfl
  have hn : ([] : B).isEmpty = true := rfl
  rw [Bool.eq_iff_iff]
  simp only [rightM, emptyM, searchOk, hop]
  cases hmv : m.moves <;> simp [namO, ansO, h0] <;> constructor <;> intro h <;> simp_all
set_option maxHeartbeats 16000000 in
theorem pright_96 (M : Nat) (E : Nat → Prop) (m : Msg) (vk va vw vl vm : Value) (w : World) (h : MsgC M E w m vk va vw vl vm) (hop : m.op = 96) : Calls Try.prog 20 #[.agg (mcs m vk va vw vl vm).toArray] w fun e w' => e = .returned (.bool (rightM m)) ∧ Fr No w w' := by
  rw [right_96 m hop]
  have H := hid h; have HOP := hid hop
  have e : mcs m vk va vw vl vm = [.int .i64 m.id, .int .i64 96, .int .i64 m.ver, .string (sb m.name), .string (sb m.pw), .int .i64 m.scope, .int .i64 m.deref, .int .i64 m.size, .int .i64 m.time, .bool m.typesOnly, .int .i64 m.filter.kind, vk, .string (sb m.filter.type), .string (sb m.filter.value), .string (sb m.filter.first), va, .string (sb m.filter.last), vw, vl, vm, .string (sb m.rdn), .bool m.dropOld, .bool m.moves, .string (sb m.sup), .string (sb m.type), .string (sb m.value), .int .i64 m.target, .int .i64 m.code, .string (sb m.matched), .string (sb m.text)] := by unfold mcs; rw [hop]
  rw [e]
  have HE := hid e
  clear e
  clear h hop
  obtain ⟨b0, hb0⟩ : ∃ b, inI m.id 0 2147483647 = b := ⟨_, rfl⟩
  rw [hb0]
  have HB_0 := hid hb0
  clear hb0
  obtain ⟨b1, hb1⟩ : ∃ b, (inI m.ver 1 127) = b := ⟨_, rfl⟩
  rw [hb1]
  have HB_1 := hid hb1
  clear hb1
  obtain ⟨EO, hEO⟩ : ∃ b, emptyM { m with ver := 0, name := [], pw := [] } = b := ⟨_, rfl⟩
  rw [hEO]
  have HEO := hid hEO
  clear hEO
  go_enter Try.func20, Try.ntmps20
  go_wp2_with (first
    | ((with_reducible refine K.atO (.box 29 _) ?_); refine wpL_box rfl _ _ rfl _ rfl [.int .i64 m.id, .int .i64 96, .int .i64 m.ver, .string (sb m.name), .string (sb m.pw), .int .i64 m.scope, .int .i64 m.deref, .int .i64 m.size, .int .i64 m.time, .bool m.typesOnly, .int .i64 m.filter.kind, vk, .string (sb m.filter.type), .string (sb m.filter.value), .string (sb m.filter.first), va, .string (sb m.filter.last), vw, vl, vm, .string (sb m.rdn), .bool m.dropOld, .bool m.moves, .string (sb m.sup), .string (sb m.type), .string (sb m.value), .int .i64 m.target, .int .i64 m.code, .string (sb m.matched), .string (sb m.text)] rfl ?_; intro w1 HB1 F1 HS1; have c0 : w1.cell? ⟨w.heap.size, 0, none⟩ = some (.int .i64 m.id) := HB1.out.cell 0; have c1 : w1.cell? ⟨w.heap.size, 1, none⟩ = some (.int .i64 96) := HB1.out.cell 1; have c2 : w1.cell? ⟨w.heap.size, 2, none⟩ = some (.int .i64 m.ver) := HB1.out.cell 2)
    | fail)
  refine (pnumber_any m.id w1).mono ?_
  rintro e x0 ⟨rfl, hx0⟩
  have hy0 := hx0.symm
  subst hy0
  rw [HB_0.out]
  cases b0 with
  | false =>
    go_wp2_with (first
      | ((with_reducible refine K.atO (.store 3 _ _) ?_); (fail_if_success (have := HZ0)); refine wpL_setV rfl _ _ _ rfl w.heap.size 2 (.int .i64 0) rfl rfl rfl rfl _ _ HB1.out (by simp) infoI0 ?_; intro s0 HY0 FY0 HSY0; have HZ0 := HY0; have HW0 := hid (F1.out.trans FY0.out fun k e => .inr (by have e : k = w.heap.size := e; omega)))
      | ((with_reducible refine K.atO (.store 9 _ _) ?_); (fail_if_success (have := HZ1)); (have := HZ0); refine wpL_setV rfl _ _ _ rfl w.heap.size 3 (.string ⟨#[]⟩) rfl rfl rfl rfl _ _ HZ0.out (by simp) infoS ?_; intro s1 HY1 FY1 HSY1; have HZ1 := HY1; have HW1 := hid (HW0.out.trans FY1.out fun k e => .inr (by have e : k = w.heap.size := e; omega)))
      | ((with_reducible refine K.atO (.store 9 _ _) ?_); (fail_if_success (have := HZ2)); (have := HZ1); refine wpL_setV rfl _ _ _ rfl w.heap.size 4 (.string ⟨#[]⟩) rfl rfl rfl rfl _ _ HZ1.out (by simp) infoS ?_; intro s2 HY2 FY2 HSY2; have HZ2 := HY2; have HW2 := hid (HW1.out.trans FY2.out fun k e => .inr (by have e : k = w.heap.size := e; omega)))
      | fail)
    go_ret
    exact ⟨by simp, HW2.out⟩
  | true =>
  go_wp2_with fail
  refine (pfrom_any m.ver 1 127 w1).mono ?_
  rintro e x1 ⟨rfl, hx1⟩
  have hy1 := hx1.symm
  subst hy1
  rw [HB_1.out]
  cases b1 with
  | false =>
    go_wp2_with (first
      | ((with_reducible refine K.atO (.store 3 _ _) ?_); (fail_if_success (have := HZ0)); refine wpL_setV rfl _ _ _ rfl w.heap.size 2 (.int .i64 0) rfl rfl rfl rfl _ _ HB1.out (by simp) infoI0 ?_; intro s0 HY0 FY0 HSY0; have HZ0 := HY0; have HW0 := hid (F1.out.trans FY0.out fun k e => .inr (by have e : k = w.heap.size := e; omega)))
      | ((with_reducible refine K.atO (.store 9 _ _) ?_); (fail_if_success (have := HZ1)); (have := HZ0); refine wpL_setV rfl _ _ _ rfl w.heap.size 3 (.string ⟨#[]⟩) rfl rfl rfl rfl _ _ HZ0.out (by simp) infoS ?_; intro s1 HY1 FY1 HSY1; have HZ1 := HY1; have HW1 := hid (HW0.out.trans FY1.out fun k e => .inr (by have e : k = w.heap.size := e; omega)))
      | ((with_reducible refine K.atO (.store 9 _ _) ?_); (fail_if_success (have := HZ2)); (have := HZ1); refine wpL_setV rfl _ _ _ rfl w.heap.size 4 (.string ⟨#[]⟩) rfl rfl rfl rfl _ _ HZ1.out (by simp) infoS ?_; intro s2 HY2 FY2 HSY2; have HZ2 := HY2; have HW2 := hid (HW1.out.trans FY2.out fun k e => .inr (by have e : k = w.heap.size := e; omega)))
      | fail)
    go_ret
    exact ⟨by simp, HW2.out⟩
  | true =>
    go_wp2_with (first
      | ((with_reducible refine K.atO (.store 3 _ _) ?_); (fail_if_success (have := HZ0)); refine wpL_setV rfl _ _ _ rfl w.heap.size 2 (.int .i64 0) rfl rfl rfl rfl _ _ HB1.out (by simp) infoI0 ?_; intro s0 HY0 FY0 HSY0; have HZ0 := HY0; have HW0 := hid (F1.out.trans FY0.out fun k e => .inr (by have e : k = w.heap.size := e; omega)))
      | ((with_reducible refine K.atO (.store 9 _ _) ?_); (fail_if_success (have := HZ1)); (have := HZ0); refine wpL_setV rfl _ _ _ rfl w.heap.size 3 (.string ⟨#[]⟩) rfl rfl rfl rfl _ _ HZ0.out (by simp) infoS ?_; intro s1 HY1 FY1 HSY1; have HZ1 := HY1; have HW1 := hid (HW0.out.trans FY1.out fun k e => .inr (by have e : k = w.heap.size := e; omega)))
      | ((with_reducible refine K.atO (.store 9 _ _) ?_); (fail_if_success (have := HZ2)); (have := HZ1); refine wpL_setV rfl _ _ _ rfl w.heap.size 4 (.string ⟨#[]⟩) rfl rfl rfl rfl _ _ HZ1.out (by simp) infoS ?_; intro s2 HY2 FY2 HSY2; have HZ2 := HY2; have HW2 := hid (HW1.out.trans FY2.out fun k e => .inr (by have e : k = w.heap.size := e; omega)))
      | ((with_reducible refine K.atO (.load 29 _) ?_); refine wpL_valZ (by rfl) (.agg #[.int .i64 m.id, .int .i64 96, .int .i64 0, .string ⟨#[]⟩, .string ⟨#[]⟩, .int .i64 m.scope, .int .i64 m.deref, .int .i64 m.size, .int .i64 m.time, .bool m.typesOnly, .int .i64 m.filter.kind, vk, .string (sb m.filter.type), .string (sb m.filter.value), .string (sb m.filter.first), va, .string (sb m.filter.last), vw, vl, vm, .string (sb m.rdn), .bool m.dropOld, .bool m.moves, .string (sb m.sup), .string (sb m.type), .string (sb m.value), .int .i64 m.target, .int .i64 m.code, .string (sb m.matched), .string (sb m.text)]) (exec_load _ _ rfl w.heap.size 0 rfl [.int .i64 m.id, .int .i64 96, .int .i64 0, .string ⟨#[]⟩, .string ⟨#[]⟩, .int .i64 m.scope, .int .i64 m.deref, .int .i64 m.size, .int .i64 m.time, .bool m.typesOnly, .int .i64 m.filter.kind, vk, .string (sb m.filter.type), .string (sb m.filter.value), .string (sb m.filter.first), va, .string (sb m.filter.last), vw, vl, vm, .string (sb m.rdn), .bool m.dropOld, .bool m.moves, .string (sb m.sup), .string (sb m.type), .string (sb m.value), .int .i64 m.target, .int .i64 m.code, .string (sb m.matched), .string (sb m.text)] _ rfl rfl infoMsg _ (HZ2.out.range 0 _ rfl)) ?_)
      | fail)
    have HMM : MsgC M E s2 { m with ver := 0, name := [], pw := [] } (vk) (va) (vw) (vl) (vm) := ⟨⟨H.out.ints.1, H.out.ints.2.1, i64z, H.out.ints.2.2.2.1, H.out.ints.2.2.2.2.1, H.out.ints.2.2.2.2.2.1, H.out.ints.2.2.2.2.2.2.1, H.out.ints.2.2.2.2.2.2.2.1, H.out.ints.2.2.2.2.2.2.2.2⟩, ⟨(Nat.zero_le _), (Nat.zero_le _), H.out.texts.2.2.1, H.out.texts.2.2.2.1, H.out.texts.2.2.2.2.1, H.out.texts.2.2.2.2.2.1, H.out.texts.2.2.2.2.2.2.1, H.out.texts.2.2.2.2.2.2.2⟩, H.out.filter.no HW2.out, H.out.wants.no HW2.out, H.out.list.noA HW2.out, H.out.mods.noM HW2.out⟩
    have hcall := pemptyM_any M E { m with ver := 0, name := [], pw := [] } (vk) (va) (vw) (vl) (vm) s2 HMM
    have hcells : mcs { m with ver := 0, name := [], pw := [] } (vk) (va) (vw) (vl) (vm) = [.int .i64 m.id, .int .i64 96, .int .i64 0, .string ⟨#[]⟩, .string ⟨#[]⟩, .int .i64 m.scope, .int .i64 m.deref, .int .i64 m.size, .int .i64 m.time, .bool m.typesOnly, .int .i64 m.filter.kind, vk, .string (sb m.filter.type), .string (sb m.filter.value), .string (sb m.filter.first), va, .string (sb m.filter.last), vw, vl, vm, .string (sb m.rdn), .bool m.dropOld, .bool m.moves, .string (sb m.sup), .string (sb m.type), .string (sb m.value), .int .i64 m.target, .int .i64 m.code, .string (sb m.matched), .string (sb m.text)] := by unfold mcs; simp only [HOP.out]; try rfl
    rw [hcells] at hcall
    refine hcall.mono ?_
    rintro e w9 ⟨rfl, f9⟩
    rw [HEO.out]
    have HF9 := hid (HW2.out.trans' f9)
    clear f9 hcall hcells HMM
    go_wp2_with fail
    go_ret
    exact ⟨by cases EO <;> rfl, HF9.out⟩
theorem right_99 (m : Msg) (hop : m.op = 99) : rightM m = (inI m.id 0 2147483647 && searchOk m && emptyM { m with name := [], scope := 0, deref := 0, size := 0, time := 0, typesOnly := false, filter := fl0, wants := [] }) := by
  have hmods : m.mods.isEmpty = true → m.mods.all (fun x => inI x.doing 0 2) = true := fun h => by rw [List.isEmpty_iff.1 h]; rfl
  have h0 : emptyF fl0 = true := rfl
  have hn : ([] : B).isEmpty = true := rfl
  rw [Bool.eq_iff_iff]
  simp only [rightM, emptyM, searchOk, hop]
  cases hmv : m.moves <;> simp [namO, ansO, h0] <;> constructor <;> intro h <;> simp_all
set_option maxHeartbeats 16000000 in
theorem pright_99 (M : Nat) (E : Nat → Prop) (m : Msg) (vk va vw vl vm : Value) (w : World) (h : MsgC M E w m vk va vw vl vm) (hop : m.op = 99) : Calls Try.prog 20 #[.agg (mcs m vk va vw vl vm).toArray] w fun e w' => e = .returned (.bool (rightM m)) ∧ Fr No w w' := by
  rw [right_99 m hop]
  have H := hid h; have HOP := hid hop
  have e : mcs m vk va vw vl vm = [.int .i64 m.id, .int .i64 99, .int .i64 m.ver, .string (sb m.name), .string (sb m.pw), .int .i64 m.scope, .int .i64 m.deref, .int .i64 m.size, .int .i64 m.time, .bool m.typesOnly, .int .i64 m.filter.kind, vk, .string (sb m.filter.type), .string (sb m.filter.value), .string (sb m.filter.first), va, .string (sb m.filter.last), vw, vl, vm, .string (sb m.rdn), .bool m.dropOld, .bool m.moves, .string (sb m.sup), .string (sb m.type), .string (sb m.value), .int .i64 m.target, .int .i64 m.code, .string (sb m.matched), .string (sb m.text)] := by unfold mcs; rw [hop]
  rw [e]
  have HE := hid e
  clear e
  clear h hop
  obtain ⟨b0, hb0⟩ : ∃ b, inI m.id 0 2147483647 = b := ⟨_, rfl⟩
  rw [hb0]
  have HB_0 := hid hb0
  clear hb0
  obtain ⟨b1, hb1⟩ : ∃ b, (searchOk m) = b := ⟨_, rfl⟩
  rw [hb1]
  have HB_1 := hid hb1
  clear hb1
  obtain ⟨EO, hEO⟩ : ∃ b, emptyM { m with name := [], scope := 0, deref := 0, size := 0, time := 0, typesOnly := false, filter := fl0, wants := [] } = b := ⟨_, rfl⟩
  rw [hEO]
  have HEO := hid hEO
  clear hEO
  go_enter Try.func20, Try.ntmps20
  go_wp2_with (first
    | ((with_reducible refine K.atO (.box 29 _) ?_); refine wpL_box rfl _ _ rfl _ rfl [.int .i64 m.id, .int .i64 99, .int .i64 m.ver, .string (sb m.name), .string (sb m.pw), .int .i64 m.scope, .int .i64 m.deref, .int .i64 m.size, .int .i64 m.time, .bool m.typesOnly, .int .i64 m.filter.kind, vk, .string (sb m.filter.type), .string (sb m.filter.value), .string (sb m.filter.first), va, .string (sb m.filter.last), vw, vl, vm, .string (sb m.rdn), .bool m.dropOld, .bool m.moves, .string (sb m.sup), .string (sb m.type), .string (sb m.value), .int .i64 m.target, .int .i64 m.code, .string (sb m.matched), .string (sb m.text)] rfl ?_; intro w1 HB1 F1 HS1; have c0 : w1.cell? ⟨w.heap.size, 0, none⟩ = some (.int .i64 m.id) := HB1.out.cell 0; have c1 : w1.cell? ⟨w.heap.size, 1, none⟩ = some (.int .i64 99) := HB1.out.cell 1)
    | fail)
  refine (pnumber_any m.id w1).mono ?_
  rintro e x0 ⟨rfl, hx0⟩
  have hy0 := hx0.symm
  subst hy0
  rw [HB_0.out]
  cases b0 with
  | false =>
    go_wp2_with (first
      | ((with_reducible refine K.atO (.store 9 _ _) ?_); (fail_if_success (have := HZ0)); refine wpL_setV rfl _ _ _ rfl w.heap.size 3 (.string ⟨#[]⟩) rfl rfl rfl rfl _ _ HB1.out (by simp) infoS ?_; intro s0 HY0 FY0 HSY0; have HZ0 := HY0; have HW0 := hid (F1.out.trans FY0.out fun k e => .inr (by have e : k = w.heap.size := e; omega)))
      | ((with_reducible refine K.atO (.store 3 _ _) ?_); (fail_if_success (have := HZ1)); (have := HZ0); refine wpL_setV rfl _ _ _ rfl w.heap.size 5 (.int .i64 0) rfl rfl rfl rfl _ _ HZ0.out (by simp) infoI0 ?_; intro s1 HY1 FY1 HSY1; have HZ1 := HY1; have HW1 := hid (HW0.out.trans FY1.out fun k e => .inr (by have e : k = w.heap.size := e; omega)))
      | ((with_reducible refine K.atO (.store 3 _ _) ?_); (fail_if_success (have := HZ2)); (have := HZ1); refine wpL_setV rfl _ _ _ rfl w.heap.size 6 (.int .i64 0) rfl rfl rfl rfl _ _ HZ1.out (by simp) infoI0 ?_; intro s2 HY2 FY2 HSY2; have HZ2 := HY2; have HW2 := hid (HW1.out.trans FY2.out fun k e => .inr (by have e : k = w.heap.size := e; omega)))
      | ((with_reducible refine K.atO (.store 3 _ _) ?_); (fail_if_success (have := HZ3)); (have := HZ2); refine wpL_setV rfl _ _ _ rfl w.heap.size 7 (.int .i64 0) rfl rfl rfl rfl _ _ HZ2.out (by simp) infoI0 ?_; intro s3 HY3 FY3 HSY3; have HZ3 := HY3; have HW3 := hid (HW2.out.trans FY3.out fun k e => .inr (by have e : k = w.heap.size := e; omega)))
      | ((with_reducible refine K.atO (.store 3 _ _) ?_); (fail_if_success (have := HZ4)); (have := HZ3); refine wpL_setV rfl _ _ _ rfl w.heap.size 8 (.int .i64 0) rfl rfl rfl rfl _ _ HZ3.out (by simp) infoI0 ?_; intro s4 HY4 FY4 HSY4; have HZ4 := HY4; have HW4 := hid (HW3.out.trans FY4.out fun k e => .inr (by have e : k = w.heap.size := e; omega)))
      | ((with_reducible refine K.atO (.store 4 _ _) ?_); (fail_if_success (have := HZ5)); (have := HZ4); refine wpL_setV rfl _ _ _ rfl w.heap.size 9 (.bool false) rfl rfl rfl rfl _ _ HZ4.out (by simp) infoI1 ?_; intro s5 HY5 FY5 HSY5; have HZ5 := HY5; have HW5 := hid (HW4.out.trans FY5.out fun k e => .inr (by have e : k = w.heap.size := e; omega)))
      | ((with_reducible refine K.atO (.store 25 _ _) ?_); (fail_if_success (have := HZ6)); (have := HZ5); refine wpL_storeV rfl _ _ _ rfl w.heap.size 10 (.agg #[.int .i64 0, .slice none 0 0, .string ⟨#[]⟩, .string ⟨#[]⟩, .string ⟨#[]⟩, .slice none 0 0, .string ⟨#[]⟩]) [.int .i64 0, .slice none 0 0, .string ⟨#[]⟩, .string ⟨#[]⟩, .string ⟨#[]⟩, .slice none 0 0, .string ⟨#[]⟩] rfl rfl rfl _ _ HZ5.out (by simp) infoFl (by intro u hu; simp at hu; rcases hu with rfl | rfl | rfl | rfl | rfl | rfl | rfl <;> rfl) ?_; intro s6 HY6 FY6 HSY6; have HZ6 : Hid (Blk s6 w.heap.size 29 [.int .i64 m.id, .int .i64 99, .int .i64 m.ver, .string ⟨#[]⟩, .string (sb m.pw), .int .i64 0, .int .i64 0, .int .i64 0, .int .i64 0, .bool false, .int .i64 0, .slice none 0 0, .string ⟨#[]⟩, .string ⟨#[]⟩, .string ⟨#[]⟩, .slice none 0 0, .string ⟨#[]⟩, vw, vl, vm, .string (sb m.rdn), .bool m.dropOld, .bool m.moves, .string (sb m.sup), .string (sb m.type), .string (sb m.value), .int .i64 m.target, .int .i64 m.code, .string (sb m.matched), .string (sb m.text)]) := hid HY6.out; have HW6 := hid (HW5.out.trans FY6.out fun k e => .inr (by have e : k = w.heap.size := e; omega)))
      | ((with_reducible refine K.atO (.store 23 _ _) ?_); (fail_if_success (have := HZ7)); (have := HZ6); refine wpL_setV rfl _ _ _ rfl w.heap.size 17 (.slice none 0 0) rfl rfl rfl rfl _ _ HZ6.out (by simp) infoSs ?_; intro s7 HY7 FY7 HSY7; have HZ7 := HY7; have HW7 := hid (HW6.out.trans FY7.out fun k e => .inr (by have e : k = w.heap.size := e; omega)))
      | fail)
    go_ret
    exact ⟨by simp, HW7.out⟩
  | true =>
  have hcs := psearch_any M E m vk va vw vl vm w1 (H.out.no F1.out) HOP.out
  rw [HE.out] at hcs
  go_wp2_with (first
    | ((with_reducible refine K.atO (.load 29 _) ?_); refine wpL_valZ (by rfl) (.agg #[.int .i64 m.id, .int .i64 99, .int .i64 m.ver, .string (sb m.name), .string (sb m.pw), .int .i64 m.scope, .int .i64 m.deref, .int .i64 m.size, .int .i64 m.time, .bool m.typesOnly, .int .i64 m.filter.kind, vk, .string (sb m.filter.type), .string (sb m.filter.value), .string (sb m.filter.first), va, .string (sb m.filter.last), vw, vl, vm, .string (sb m.rdn), .bool m.dropOld, .bool m.moves, .string (sb m.sup), .string (sb m.type), .string (sb m.value), .int .i64 m.target, .int .i64 m.code, .string (sb m.matched), .string (sb m.text)]) (exec_load _ _ rfl w.heap.size 0 rfl [.int .i64 m.id, .int .i64 99, .int .i64 m.ver, .string (sb m.name), .string (sb m.pw), .int .i64 m.scope, .int .i64 m.deref, .int .i64 m.size, .int .i64 m.time, .bool m.typesOnly, .int .i64 m.filter.kind, vk, .string (sb m.filter.type), .string (sb m.filter.value), .string (sb m.filter.first), va, .string (sb m.filter.last), vw, vl, vm, .string (sb m.rdn), .bool m.dropOld, .bool m.moves, .string (sb m.sup), .string (sb m.type), .string (sb m.value), .int .i64 m.target, .int .i64 m.code, .string (sb m.matched), .string (sb m.text)] _ rfl rfl infoMsg _ (HB1.out.range 0 _ rfl)) ?_)
    | fail)
  refine hcs.mono ?_
  rintro e w2 ⟨rfl, f2⟩
  rw [HB_1.out]
  have HF2 := hid (F1.out.trans' f2); have HB2 := hid (HB1.out.fr f2 (fun h => h))
  clear f2 hcs
  cases b1 with
  | false =>
    go_wp2_with (first
      | ((with_reducible refine K.atO (.store 9 _ _) ?_); (fail_if_success (have := HZ0)); refine wpL_setV rfl _ _ _ rfl w.heap.size 3 (.string ⟨#[]⟩) rfl rfl rfl rfl _ _ HB2.out (by simp) infoS ?_; intro s0 HY0 FY0 HSY0; have HZ0 := HY0; have HW0 := hid (HF2.out.trans FY0.out fun k e => .inr (by have e : k = w.heap.size := e; omega)))
      | ((with_reducible refine K.atO (.store 3 _ _) ?_); (fail_if_success (have := HZ1)); (have := HZ0); refine wpL_setV rfl _ _ _ rfl w.heap.size 5 (.int .i64 0) rfl rfl rfl rfl _ _ HZ0.out (by simp) infoI0 ?_; intro s1 HY1 FY1 HSY1; have HZ1 := HY1; have HW1 := hid (HW0.out.trans FY1.out fun k e => .inr (by have e : k = w.heap.size := e; omega)))
      | ((with_reducible refine K.atO (.store 3 _ _) ?_); (fail_if_success (have := HZ2)); (have := HZ1); refine wpL_setV rfl _ _ _ rfl w.heap.size 6 (.int .i64 0) rfl rfl rfl rfl _ _ HZ1.out (by simp) infoI0 ?_; intro s2 HY2 FY2 HSY2; have HZ2 := HY2; have HW2 := hid (HW1.out.trans FY2.out fun k e => .inr (by have e : k = w.heap.size := e; omega)))
      | ((with_reducible refine K.atO (.store 3 _ _) ?_); (fail_if_success (have := HZ3)); (have := HZ2); refine wpL_setV rfl _ _ _ rfl w.heap.size 7 (.int .i64 0) rfl rfl rfl rfl _ _ HZ2.out (by simp) infoI0 ?_; intro s3 HY3 FY3 HSY3; have HZ3 := HY3; have HW3 := hid (HW2.out.trans FY3.out fun k e => .inr (by have e : k = w.heap.size := e; omega)))
      | ((with_reducible refine K.atO (.store 3 _ _) ?_); (fail_if_success (have := HZ4)); (have := HZ3); refine wpL_setV rfl _ _ _ rfl w.heap.size 8 (.int .i64 0) rfl rfl rfl rfl _ _ HZ3.out (by simp) infoI0 ?_; intro s4 HY4 FY4 HSY4; have HZ4 := HY4; have HW4 := hid (HW3.out.trans FY4.out fun k e => .inr (by have e : k = w.heap.size := e; omega)))
      | ((with_reducible refine K.atO (.store 4 _ _) ?_); (fail_if_success (have := HZ5)); (have := HZ4); refine wpL_setV rfl _ _ _ rfl w.heap.size 9 (.bool false) rfl rfl rfl rfl _ _ HZ4.out (by simp) infoI1 ?_; intro s5 HY5 FY5 HSY5; have HZ5 := HY5; have HW5 := hid (HW4.out.trans FY5.out fun k e => .inr (by have e : k = w.heap.size := e; omega)))
      | ((with_reducible refine K.atO (.store 25 _ _) ?_); (fail_if_success (have := HZ6)); (have := HZ5); refine wpL_storeV rfl _ _ _ rfl w.heap.size 10 (.agg #[.int .i64 0, .slice none 0 0, .string ⟨#[]⟩, .string ⟨#[]⟩, .string ⟨#[]⟩, .slice none 0 0, .string ⟨#[]⟩]) [.int .i64 0, .slice none 0 0, .string ⟨#[]⟩, .string ⟨#[]⟩, .string ⟨#[]⟩, .slice none 0 0, .string ⟨#[]⟩] rfl rfl rfl _ _ HZ5.out (by simp) infoFl (by intro u hu; simp at hu; rcases hu with rfl | rfl | rfl | rfl | rfl | rfl | rfl <;> rfl) ?_; intro s6 HY6 FY6 HSY6; have HZ6 : Hid (Blk s6 w.heap.size 29 [.int .i64 m.id, .int .i64 99, .int .i64 m.ver, .string ⟨#[]⟩, .string (sb m.pw), .int .i64 0, .int .i64 0, .int .i64 0, .int .i64 0, .bool false, .int .i64 0, .slice none 0 0, .string ⟨#[]⟩, .string ⟨#[]⟩, .string ⟨#[]⟩, .slice none 0 0, .string ⟨#[]⟩, vw, vl, vm, .string (sb m.rdn), .bool m.dropOld, .bool m.moves, .string (sb m.sup), .string (sb m.type), .string (sb m.value), .int .i64 m.target, .int .i64 m.code, .string (sb m.matched), .string (sb m.text)]) := hid HY6.out; have HW6 := hid (HW5.out.trans FY6.out fun k e => .inr (by have e : k = w.heap.size := e; omega)))
      | ((with_reducible refine K.atO (.store 23 _ _) ?_); (fail_if_success (have := HZ7)); (have := HZ6); refine wpL_setV rfl _ _ _ rfl w.heap.size 17 (.slice none 0 0) rfl rfl rfl rfl _ _ HZ6.out (by simp) infoSs ?_; intro s7 HY7 FY7 HSY7; have HZ7 := HY7; have HW7 := hid (HW6.out.trans FY7.out fun k e => .inr (by have e : k = w.heap.size := e; omega)))
      | fail)
    go_ret
    exact ⟨by simp, HW7.out⟩
  | true =>
    go_wp2_with (first
      | ((with_reducible refine K.atO (.store 9 _ _) ?_); (fail_if_success (have := HZ0)); refine wpL_setV rfl _ _ _ rfl w.heap.size 3 (.string ⟨#[]⟩) rfl rfl rfl rfl _ _ HB2.out (by simp) infoS ?_; intro s0 HY0 FY0 HSY0; have HZ0 := HY0; have HW0 := hid (HF2.out.trans FY0.out fun k e => .inr (by have e : k = w.heap.size := e; omega)))
      | ((with_reducible refine K.atO (.store 3 _ _) ?_); (fail_if_success (have := HZ1)); (have := HZ0); refine wpL_setV rfl _ _ _ rfl w.heap.size 5 (.int .i64 0) rfl rfl rfl rfl _ _ HZ0.out (by simp) infoI0 ?_; intro s1 HY1 FY1 HSY1; have HZ1 := HY1; have HW1 := hid (HW0.out.trans FY1.out fun k e => .inr (by have e : k = w.heap.size := e; omega)))
      | ((with_reducible refine K.atO (.store 3 _ _) ?_); (fail_if_success (have := HZ2)); (have := HZ1); refine wpL_setV rfl _ _ _ rfl w.heap.size 6 (.int .i64 0) rfl rfl rfl rfl _ _ HZ1.out (by simp) infoI0 ?_; intro s2 HY2 FY2 HSY2; have HZ2 := HY2; have HW2 := hid (HW1.out.trans FY2.out fun k e => .inr (by have e : k = w.heap.size := e; omega)))
      | ((with_reducible refine K.atO (.store 3 _ _) ?_); (fail_if_success (have := HZ3)); (have := HZ2); refine wpL_setV rfl _ _ _ rfl w.heap.size 7 (.int .i64 0) rfl rfl rfl rfl _ _ HZ2.out (by simp) infoI0 ?_; intro s3 HY3 FY3 HSY3; have HZ3 := HY3; have HW3 := hid (HW2.out.trans FY3.out fun k e => .inr (by have e : k = w.heap.size := e; omega)))
      | ((with_reducible refine K.atO (.store 3 _ _) ?_); (fail_if_success (have := HZ4)); (have := HZ3); refine wpL_setV rfl _ _ _ rfl w.heap.size 8 (.int .i64 0) rfl rfl rfl rfl _ _ HZ3.out (by simp) infoI0 ?_; intro s4 HY4 FY4 HSY4; have HZ4 := HY4; have HW4 := hid (HW3.out.trans FY4.out fun k e => .inr (by have e : k = w.heap.size := e; omega)))
      | ((with_reducible refine K.atO (.store 4 _ _) ?_); (fail_if_success (have := HZ5)); (have := HZ4); refine wpL_setV rfl _ _ _ rfl w.heap.size 9 (.bool false) rfl rfl rfl rfl _ _ HZ4.out (by simp) infoI1 ?_; intro s5 HY5 FY5 HSY5; have HZ5 := HY5; have HW5 := hid (HW4.out.trans FY5.out fun k e => .inr (by have e : k = w.heap.size := e; omega)))
      | ((with_reducible refine K.atO (.store 25 _ _) ?_); (fail_if_success (have := HZ6)); (have := HZ5); refine wpL_storeV rfl _ _ _ rfl w.heap.size 10 (.agg #[.int .i64 0, .slice none 0 0, .string ⟨#[]⟩, .string ⟨#[]⟩, .string ⟨#[]⟩, .slice none 0 0, .string ⟨#[]⟩]) [.int .i64 0, .slice none 0 0, .string ⟨#[]⟩, .string ⟨#[]⟩, .string ⟨#[]⟩, .slice none 0 0, .string ⟨#[]⟩] rfl rfl rfl _ _ HZ5.out (by simp) infoFl (by intro u hu; simp at hu; rcases hu with rfl | rfl | rfl | rfl | rfl | rfl | rfl <;> rfl) ?_; intro s6 HY6 FY6 HSY6; have HZ6 : Hid (Blk s6 w.heap.size 29 [.int .i64 m.id, .int .i64 99, .int .i64 m.ver, .string ⟨#[]⟩, .string (sb m.pw), .int .i64 0, .int .i64 0, .int .i64 0, .int .i64 0, .bool false, .int .i64 0, .slice none 0 0, .string ⟨#[]⟩, .string ⟨#[]⟩, .string ⟨#[]⟩, .slice none 0 0, .string ⟨#[]⟩, vw, vl, vm, .string (sb m.rdn), .bool m.dropOld, .bool m.moves, .string (sb m.sup), .string (sb m.type), .string (sb m.value), .int .i64 m.target, .int .i64 m.code, .string (sb m.matched), .string (sb m.text)]) := hid HY6.out; have HW6 := hid (HW5.out.trans FY6.out fun k e => .inr (by have e : k = w.heap.size := e; omega)))
      | ((with_reducible refine K.atO (.store 23 _ _) ?_); (fail_if_success (have := HZ7)); (have := HZ6); refine wpL_setV rfl _ _ _ rfl w.heap.size 17 (.slice none 0 0) rfl rfl rfl rfl _ _ HZ6.out (by simp) infoSs ?_; intro s7 HY7 FY7 HSY7; have HZ7 := HY7; have HW7 := hid (HW6.out.trans FY7.out fun k e => .inr (by have e : k = w.heap.size := e; omega)))
      | ((with_reducible refine K.atO (.load 29 _) ?_); refine wpL_valZ (by rfl) (.agg #[.int .i64 m.id, .int .i64 99, .int .i64 m.ver, .string ⟨#[]⟩, .string (sb m.pw), .int .i64 0, .int .i64 0, .int .i64 0, .int .i64 0, .bool false, .int .i64 0, .slice none 0 0, .string ⟨#[]⟩, .string ⟨#[]⟩, .string ⟨#[]⟩, .slice none 0 0, .string ⟨#[]⟩, .slice none 0 0, vl, vm, .string (sb m.rdn), .bool m.dropOld, .bool m.moves, .string (sb m.sup), .string (sb m.type), .string (sb m.value), .int .i64 m.target, .int .i64 m.code, .string (sb m.matched), .string (sb m.text)]) (exec_load _ _ rfl w.heap.size 0 rfl [.int .i64 m.id, .int .i64 99, .int .i64 m.ver, .string ⟨#[]⟩, .string (sb m.pw), .int .i64 0, .int .i64 0, .int .i64 0, .int .i64 0, .bool false, .int .i64 0, .slice none 0 0, .string ⟨#[]⟩, .string ⟨#[]⟩, .string ⟨#[]⟩, .slice none 0 0, .string ⟨#[]⟩, .slice none 0 0, vl, vm, .string (sb m.rdn), .bool m.dropOld, .bool m.moves, .string (sb m.sup), .string (sb m.type), .string (sb m.value), .int .i64 m.target, .int .i64 m.code, .string (sb m.matched), .string (sb m.text)] _ rfl rfl infoMsg _ (HZ7.out.range 0 _ rfl)) ?_)
      | fail)
    have HMM : MsgC 1 E s7 { m with name := [], scope := 0, deref := 0, size := 0, time := 0, typesOnly := false, filter := fl0, wants := [] } (.slice none 0 0) (.slice none 0 0) (.slice none 0 0) (vl) (vm) := ⟨⟨H.out.ints.1, H.out.ints.2.1, H.out.ints.2.2.1, i64z, i64z, i64z, i64z, H.out.ints.2.2.2.2.2.2.2.1, H.out.ints.2.2.2.2.2.2.2.2⟩, ⟨(Nat.zero_le _), H.out.texts.2.1, H.out.texts.2.2.1, H.out.texts.2.2.2.1, H.out.texts.2.2.2.2.1, H.out.texts.2.2.2.2.2.1, H.out.texts.2.2.2.2.2.2.1, H.out.texts.2.2.2.2.2.2.2⟩, ⟨_, _, rfl, i64z, (Nat.zero_le _), (Nat.zero_le _), (Nat.zero_le _), (Nat.zero_le _), tx_none _ _, ⟨none, 0, rfl, Nat.le_refl _, by show (0 : Nat) ≤ _; omega, .inl rfl⟩⟩, tx_none _ _, H.out.list.noA HW7.out, H.out.mods.noM HW7.out⟩
    have hcall := pemptyM_any 1 E { m with name := [], scope := 0, deref := 0, size := 0, time := 0, typesOnly := false, filter := fl0, wants := [] } (.slice none 0 0) (.slice none 0 0) (.slice none 0 0) (vl) (vm) s7 HMM
    have hcells : mcs { m with name := [], scope := 0, deref := 0, size := 0, time := 0, typesOnly := false, filter := fl0, wants := [] } (.slice none 0 0) (.slice none 0 0) (.slice none 0 0) (vl) (vm) = [.int .i64 m.id, .int .i64 99, .int .i64 m.ver, .string ⟨#[]⟩, .string (sb m.pw), .int .i64 0, .int .i64 0, .int .i64 0, .int .i64 0, .bool false, .int .i64 0, .slice none 0 0, .string ⟨#[]⟩, .string ⟨#[]⟩, .string ⟨#[]⟩, .slice none 0 0, .string ⟨#[]⟩, .slice none 0 0, vl, vm, .string (sb m.rdn), .bool m.dropOld, .bool m.moves, .string (sb m.sup), .string (sb m.type), .string (sb m.value), .int .i64 m.target, .int .i64 m.code, .string (sb m.matched), .string (sb m.text)] := by unfold mcs; simp only [HOP.out]; try rfl
    rw [hcells] at hcall
    refine hcall.mono ?_
    rintro e w9 ⟨rfl, f9⟩
    rw [HEO.out]
    have HF9 := hid (HW7.out.trans' f9)
    clear f9 hcall hcells HMM
    go_wp2_with fail
    go_ret
    exact ⟨by cases EO <;> rfl, HF9.out⟩
theorem right_102 (m : Msg) (hop : m.op = 102) : rightM m = (inI m.id 0 2147483647 && m.mods.all (fun x => inI x.doing 0 2) && emptyM { m with name := [], mods := [] }) := by
  have hmods : m.mods.isEmpty = true → m.mods.all (fun x => inI x.doing 0 2) = true := fun h => by rw [List.isEmpty_iff.1 h]; rfl
  have h0 : emptyF fl0 = true := rfl
  have hn : ([] : B).isEmpty = true := rfl
  rw [Bool.eq_iff_iff]
  simp only [rightM, emptyM, searchOk, hop]
  cases hmv : m.moves <;> simp [namO, ansO, h0] <;> constructor <;> intro h <;> simp_all
set_option maxHeartbeats 16000000 in
theorem pright_102 (M : Nat) (E : Nat → Prop) (m : Msg) (vk va vw vl vm : Value) (w : World) (h : MsgC M E w m vk va vw vl vm) (hop : m.op = 102) : Calls Try.prog 20 #[.agg (mcs m vk va vw vl vm).toArray] w fun e w' => e = .returned (.bool (rightM m)) ∧ Fr No w w' := by
  rw [right_102 m hop]
  have H := hid h; have HOP := hid hop
  have e : mcs m vk va vw vl vm = [.int .i64 m.id, .int .i64 102, .int .i64 m.ver, .string (sb m.name), .string (sb m.pw), .int .i64 m.scope, .int .i64 m.deref, .int .i64 m.size, .int .i64 m.time, .bool m.typesOnly, .int .i64 m.filter.kind, vk, .string (sb m.filter.type), .string (sb m.filter.value), .string (sb m.filter.first), va, .string (sb m.filter.last), vw, vl, vm, .string (sb m.rdn), .bool m.dropOld, .bool m.moves, .string (sb m.sup), .string (sb m.type), .string (sb m.value), .int .i64 m.target, .int .i64 m.code, .string (sb m.matched), .string (sb m.text)] := by unfold mcs; rw [hop]
  rw [e]
  have HE := hid e
  clear e
  obtain ⟨am, cm, hvm, -, -⟩ := h.mods.form
  obtain ⟨nm, hnm⟩ : ∃ n, m.mods.length = n := ⟨_, rfl⟩
  rw [hnm] at hvm
  subst hvm
  have hall : (m.mods.any fun x => !inI x.doing 0 2) = !m.mods.all (fun x => inI x.doing 0 2) := by rw [List.all_eq_not_any_not]; simp
  have HALL0 := hid hall
  clear hall
  clear h hop
  obtain ⟨b0, hb0⟩ : ∃ b, inI m.id 0 2147483647 = b := ⟨_, rfl⟩
  rw [hb0]
  have HB_0 := hid hb0
  clear hb0
  obtain ⟨b1, hb1⟩ : ∃ b, (m.mods.all (fun x => inI x.doing 0 2)) = b := ⟨_, rfl⟩
  rw [hb1]
  have HB_1 := hid hb1
  rw [hb1] at HALL0
  clear hb1
  obtain ⟨EO, hEO⟩ : ∃ b, emptyM { m with name := [], mods := [] } = b := ⟨_, rfl⟩
  rw [hEO]
  have HEO := hid hEO
  clear hEO
  go_enter Try.func20, Try.ntmps20
  go_wp2_with (first
    | ((with_reducible refine K.atO (.box 29 _) ?_); refine wpL_box rfl _ _ rfl _ rfl [.int .i64 m.id, .int .i64 102, .int .i64 m.ver, .string (sb m.name), .string (sb m.pw), .int .i64 m.scope, .int .i64 m.deref, .int .i64 m.size, .int .i64 m.time, .bool m.typesOnly, .int .i64 m.filter.kind, vk, .string (sb m.filter.type), .string (sb m.filter.value), .string (sb m.filter.first), va, .string (sb m.filter.last), vw, vl, .slice am nm cm, .string (sb m.rdn), .bool m.dropOld, .bool m.moves, .string (sb m.sup), .string (sb m.type), .string (sb m.value), .int .i64 m.target, .int .i64 m.code, .string (sb m.matched), .string (sb m.text)] rfl ?_; intro w1 HB1 F1 HS1; have c0 : w1.cell? ⟨w.heap.size, 0, none⟩ = some (.int .i64 m.id) := HB1.out.cell 0; have c1 : w1.cell? ⟨w.heap.size, 1, none⟩ = some (.int .i64 102) := HB1.out.cell 1; have c19 : w1.cell? ⟨w.heap.size, 19, none⟩ = some (.slice am nm cm) := HB1.out.cell 19)
    | fail)
  refine (pnumber_any m.id w1).mono ?_
  rintro e x0 ⟨rfl, hx0⟩
  have hy0 := hx0.symm
  subst hy0
  rw [HB_0.out]
  cases b0 with
  | false =>
    go_wp2_with (first
      | ((with_reducible refine K.atO (.store 9 _ _) ?_); (fail_if_success (have := HZ0)); refine wpL_setV rfl _ _ _ rfl w.heap.size 3 (.string ⟨#[]⟩) rfl rfl rfl rfl _ _ HB1.out (by simp) infoS ?_; intro s0 HY0 FY0 HSY0; have HZ0 := HY0; have HW0 := hid (F1.out.trans FY0.out fun k e => .inr (by have e : k = w.heap.size := e; omega)))
      | ((with_reducible refine K.atO (.store 27 _ _) ?_); (fail_if_success (have := HZ1)); (have := HZ0); refine wpL_setV rfl _ _ _ rfl w.heap.size 19 (.slice none 0 0) rfl rfl rfl rfl _ _ HZ0.out (by simp) infoMos ?_; intro s1 HY1 FY1 HSY1; have HZ1 := HY1; have HW1 := hid (HW0.out.trans FY1.out fun k e => .inr (by have e : k = w.heap.size := e; omega)))
      | fail)
    go_ret
    exact ⟨by simp, HW1.out⟩
  | true =>
  go_wp2_with fail
  refine (containsMo 36 [] (fun x => !inI x.doing 0 2) (fun w x c => MoC E w x c) E (.slice am nm cm) m.mods w1 (fun _ _ _ _ h hf => h.no hf) (H.out.mods.noM F1.out) (fun vs w => by kernel_rfl) (fun x hx c wv hc _ => pmod_any E x c wv hc)).mono ?_
  rintro e w2 ⟨rfl, f2⟩
  rw [HALL0.out]
  have HF2 := hid (F1.out.trans' f2); have HB2 := hid (HB1.out.fr f2 (fun h => h))
  clear f2 c0 c1 c19
  cases b1 with
  | false =>
    go_wp2_with (first
      | ((with_reducible refine K.atO (.store 9 _ _) ?_); (fail_if_success (have := HZ0)); refine wpL_setV rfl _ _ _ rfl w.heap.size 3 (.string ⟨#[]⟩) rfl rfl rfl rfl _ _ HB2.out (by simp) infoS ?_; intro s0 HY0 FY0 HSY0; have HZ0 := HY0; have HW0 := hid (HF2.out.trans FY0.out fun k e => .inr (by have e : k = w.heap.size := e; omega)))
      | ((with_reducible refine K.atO (.store 27 _ _) ?_); (fail_if_success (have := HZ1)); (have := HZ0); refine wpL_setV rfl _ _ _ rfl w.heap.size 19 (.slice none 0 0) rfl rfl rfl rfl _ _ HZ0.out (by simp) infoMos ?_; intro s1 HY1 FY1 HSY1; have HZ1 := HY1; have HW1 := hid (HW0.out.trans FY1.out fun k e => .inr (by have e : k = w.heap.size := e; omega)))
      | fail)
    go_ret
    exact ⟨by simp, HW1.out⟩
  | true =>
    go_wp2_with (first
      | ((with_reducible refine K.atO (.store 9 _ _) ?_); (fail_if_success (have := HZ0)); refine wpL_setV rfl _ _ _ rfl w.heap.size 3 (.string ⟨#[]⟩) rfl rfl rfl rfl _ _ HB2.out (by simp) infoS ?_; intro s0 HY0 FY0 HSY0; have HZ0 := HY0; have HW0 := hid (HF2.out.trans FY0.out fun k e => .inr (by have e : k = w.heap.size := e; omega)))
      | ((with_reducible refine K.atO (.store 27 _ _) ?_); (fail_if_success (have := HZ1)); (have := HZ0); refine wpL_setV rfl _ _ _ rfl w.heap.size 19 (.slice none 0 0) rfl rfl rfl rfl _ _ HZ0.out (by simp) infoMos ?_; intro s1 HY1 FY1 HSY1; have HZ1 := HY1; have HW1 := hid (HW0.out.trans FY1.out fun k e => .inr (by have e : k = w.heap.size := e; omega)))
      | ((with_reducible refine K.atO (.load 29 _) ?_); refine wpL_valZ (by rfl) (.agg #[.int .i64 m.id, .int .i64 102, .int .i64 m.ver, .string ⟨#[]⟩, .string (sb m.pw), .int .i64 m.scope, .int .i64 m.deref, .int .i64 m.size, .int .i64 m.time, .bool m.typesOnly, .int .i64 m.filter.kind, vk, .string (sb m.filter.type), .string (sb m.filter.value), .string (sb m.filter.first), va, .string (sb m.filter.last), vw, vl, .slice none 0 0, .string (sb m.rdn), .bool m.dropOld, .bool m.moves, .string (sb m.sup), .string (sb m.type), .string (sb m.value), .int .i64 m.target, .int .i64 m.code, .string (sb m.matched), .string (sb m.text)]) (exec_load _ _ rfl w.heap.size 0 rfl [.int .i64 m.id, .int .i64 102, .int .i64 m.ver, .string ⟨#[]⟩, .string (sb m.pw), .int .i64 m.scope, .int .i64 m.deref, .int .i64 m.size, .int .i64 m.time, .bool m.typesOnly, .int .i64 m.filter.kind, vk, .string (sb m.filter.type), .string (sb m.filter.value), .string (sb m.filter.first), va, .string (sb m.filter.last), vw, vl, .slice none 0 0, .string (sb m.rdn), .bool m.dropOld, .bool m.moves, .string (sb m.sup), .string (sb m.type), .string (sb m.value), .int .i64 m.target, .int .i64 m.code, .string (sb m.matched), .string (sb m.text)] _ rfl rfl infoMsg _ (HZ1.out.range 0 _ rfl)) ?_)
      | fail)
    have HMM : MsgC M E s1 { m with name := [], mods := [] } (vk) (va) (vw) (vl) (.slice none 0 0) := ⟨⟨H.out.ints.1, H.out.ints.2.1, H.out.ints.2.2.1, H.out.ints.2.2.2.1, H.out.ints.2.2.2.2.1, H.out.ints.2.2.2.2.2.1, H.out.ints.2.2.2.2.2.2.1, H.out.ints.2.2.2.2.2.2.2.1, H.out.ints.2.2.2.2.2.2.2.2⟩, ⟨(Nat.zero_le _), H.out.texts.2.1, H.out.texts.2.2.1, H.out.texts.2.2.2.1, H.out.texts.2.2.2.2.1, H.out.texts.2.2.2.2.2.1, H.out.texts.2.2.2.2.2.2.1, H.out.texts.2.2.2.2.2.2.2⟩, H.out.filter.no HW1.out, H.out.wants.no HW1.out, H.out.list.noA HW1.out, ⟨none, 0, rfl, Nat.le_refl _, by show (0 : Nat) ≤ _; omega, .inl rfl⟩⟩
    have hcall := pemptyM_any M E { m with name := [], mods := [] } (vk) (va) (vw) (vl) (.slice none 0 0) s1 HMM
    have hcells : mcs { m with name := [], mods := [] } (vk) (va) (vw) (vl) (.slice none 0 0) = [.int .i64 m.id, .int .i64 102, .int .i64 m.ver, .string ⟨#[]⟩, .string (sb m.pw), .int .i64 m.scope, .int .i64 m.deref, .int .i64 m.size, .int .i64 m.time, .bool m.typesOnly, .int .i64 m.filter.kind, vk, .string (sb m.filter.type), .string (sb m.filter.value), .string (sb m.filter.first), va, .string (sb m.filter.last), vw, vl, .slice none 0 0, .string (sb m.rdn), .bool m.dropOld, .bool m.moves, .string (sb m.sup), .string (sb m.type), .string (sb m.value), .int .i64 m.target, .int .i64 m.code, .string (sb m.matched), .string (sb m.text)] := by unfold mcs; simp only [HOP.out]; try rfl
    rw [hcells] at hcall
    refine hcall.mono ?_
    rintro e w9 ⟨rfl, f9⟩
    rw [HEO.out]
    have HF9 := hid (HW1.out.trans' f9)
    clear f9 hcall hcells HMM
    go_wp2_with fail
    go_ret
    exact ⟨by cases EO <;> rfl, HF9.out⟩
theorem right_104 (m : Msg) (hop : m.op = 104) : rightM m = (inI m.id 0 2147483647 && emptyM { m with name := [], list := [] }) := by
  have hmods : m.mods.isEmpty = true → m.mods.all (fun x => inI x.doing 0 2) = true := fun h => by rw [List.isEmpty_iff.1 h]; rfl
  have h0 : emptyF fl0 = true := rfl
  have hn : ([] : B).isEmpty = true := rfl
  rw [Bool.eq_iff_iff]
  simp only [rightM, emptyM, searchOk, hop]
  cases hmv : m.moves <;> simp [namO, ansO, h0] <;> constructor <;> intro h <;> simp_all
set_option maxHeartbeats 16000000 in
theorem pright_104 (M : Nat) (E : Nat → Prop) (m : Msg) (vk va vw vl vm : Value) (w : World) (h : MsgC M E w m vk va vw vl vm) (hop : m.op = 104) : Calls Try.prog 20 #[.agg (mcs m vk va vw vl vm).toArray] w fun e w' => e = .returned (.bool (rightM m)) ∧ Fr No w w' := by
  rw [right_104 m hop]
  have H := hid h; have HOP := hid hop
  have e : mcs m vk va vw vl vm = [.int .i64 m.id, .int .i64 104, .int .i64 m.ver, .string (sb m.name), .string (sb m.pw), .int .i64 m.scope, .int .i64 m.deref, .int .i64 m.size, .int .i64 m.time, .bool m.typesOnly, .int .i64 m.filter.kind, vk, .string (sb m.filter.type), .string (sb m.filter.value), .string (sb m.filter.first), va, .string (sb m.filter.last), vw, vl, vm, .string (sb m.rdn), .bool m.dropOld, .bool m.moves, .string (sb m.sup), .string (sb m.type), .string (sb m.value), .int .i64 m.target, .int .i64 m.code, .string (sb m.matched), .string (sb m.text)] := by unfold mcs; rw [hop]
  rw [e]
  have HE := hid e
  clear e
  clear h hop
  obtain ⟨b0, hb0⟩ : ∃ b, inI m.id 0 2147483647 = b := ⟨_, rfl⟩
  rw [hb0]
  have HB_0 := hid hb0
  clear hb0
  obtain ⟨EO, hEO⟩ : ∃ b, emptyM { m with name := [], list := [] } = b := ⟨_, rfl⟩
  rw [hEO]
  have HEO := hid hEO
  clear hEO
  go_enter Try.func20, Try.ntmps20
  go_wp2_with (first
    | ((with_reducible refine K.atO (.box 29 _) ?_); refine wpL_box rfl _ _ rfl _ rfl [.int .i64 m.id, .int .i64 104, .int .i64 m.ver, .string (sb m.name), .string (sb m.pw), .int .i64 m.scope, .int .i64 m.deref, .int .i64 m.size, .int .i64 m.time, .bool m.typesOnly, .int .i64 m.filter.kind, vk, .string (sb m.filter.type), .string (sb m.filter.value), .string (sb m.filter.first), va, .string (sb m.filter.last), vw, vl, vm, .string (sb m.rdn), .bool m.dropOld, .bool m.moves, .string (sb m.sup), .string (sb m.type), .string (sb m.value), .int .i64 m.target, .int .i64 m.code, .string (sb m.matched), .string (sb m.text)] rfl ?_; intro w1 HB1 F1 HS1; have c0 : w1.cell? ⟨w.heap.size, 0, none⟩ = some (.int .i64 m.id) := HB1.out.cell 0; have c1 : w1.cell? ⟨w.heap.size, 1, none⟩ = some (.int .i64 104) := HB1.out.cell 1)
    | fail)
  refine (pnumber_any m.id w1).mono ?_
  rintro e x0 ⟨rfl, hx0⟩
  have hy0 := hx0.symm
  subst hy0
  rw [HB_0.out]
  cases b0 with
  | false =>
    go_wp2_with (first
      | ((with_reducible refine K.atO (.store 9 _ _) ?_); (fail_if_success (have := HZ0)); refine wpL_setV rfl _ _ _ rfl w.heap.size 3 (.string ⟨#[]⟩) rfl rfl rfl rfl _ _ HB1.out (by simp) infoS ?_; intro s0 HY0 FY0 HSY0; have HZ0 := HY0; have HW0 := hid (F1.out.trans FY0.out fun k e => .inr (by have e : k = w.heap.size := e; omega)))
      | ((with_reducible refine K.atO (.store 26 _ _) ?_); (fail_if_success (have := HZ1)); (have := HZ0); refine wpL_setV rfl _ _ _ rfl w.heap.size 18 (.slice none 0 0) rfl rfl rfl rfl _ _ HZ0.out (by simp) infoAts ?_; intro s1 HY1 FY1 HSY1; have HZ1 := HY1; have HW1 := hid (HW0.out.trans FY1.out fun k e => .inr (by have e : k = w.heap.size := e; omega)))
      | fail)
    go_ret
    exact ⟨by simp, HW1.out⟩
  | true =>
  go_wp2_with (first
    | ((with_reducible refine K.atO (.store 9 _ _) ?_); (fail_if_success (have := HZ0)); refine wpL_setV rfl _ _ _ rfl w.heap.size 3 (.string ⟨#[]⟩) rfl rfl rfl rfl _ _ HB1.out (by simp) infoS ?_; intro s0 HY0 FY0 HSY0; have HZ0 := HY0; have HW0 := hid (F1.out.trans FY0.out fun k e => .inr (by have e : k = w.heap.size := e; omega)))
    | ((with_reducible refine K.atO (.store 26 _ _) ?_); (fail_if_success (have := HZ1)); (have := HZ0); refine wpL_setV rfl _ _ _ rfl w.heap.size 18 (.slice none 0 0) rfl rfl rfl rfl _ _ HZ0.out (by simp) infoAts ?_; intro s1 HY1 FY1 HSY1; have HZ1 := HY1; have HW1 := hid (HW0.out.trans FY1.out fun k e => .inr (by have e : k = w.heap.size := e; omega)))
    | ((with_reducible refine K.atO (.load 29 _) ?_); refine wpL_valZ (by rfl) (.agg #[.int .i64 m.id, .int .i64 104, .int .i64 m.ver, .string ⟨#[]⟩, .string (sb m.pw), .int .i64 m.scope, .int .i64 m.deref, .int .i64 m.size, .int .i64 m.time, .bool m.typesOnly, .int .i64 m.filter.kind, vk, .string (sb m.filter.type), .string (sb m.filter.value), .string (sb m.filter.first), va, .string (sb m.filter.last), vw, .slice none 0 0, vm, .string (sb m.rdn), .bool m.dropOld, .bool m.moves, .string (sb m.sup), .string (sb m.type), .string (sb m.value), .int .i64 m.target, .int .i64 m.code, .string (sb m.matched), .string (sb m.text)]) (exec_load _ _ rfl w.heap.size 0 rfl [.int .i64 m.id, .int .i64 104, .int .i64 m.ver, .string ⟨#[]⟩, .string (sb m.pw), .int .i64 m.scope, .int .i64 m.deref, .int .i64 m.size, .int .i64 m.time, .bool m.typesOnly, .int .i64 m.filter.kind, vk, .string (sb m.filter.type), .string (sb m.filter.value), .string (sb m.filter.first), va, .string (sb m.filter.last), vw, .slice none 0 0, vm, .string (sb m.rdn), .bool m.dropOld, .bool m.moves, .string (sb m.sup), .string (sb m.type), .string (sb m.value), .int .i64 m.target, .int .i64 m.code, .string (sb m.matched), .string (sb m.text)] _ rfl rfl infoMsg _ (HZ1.out.range 0 _ rfl)) ?_)
    | fail)
  have HMM : MsgC M E s1 { m with name := [], list := [] } (vk) (va) (vw) (.slice none 0 0) (vm) := ⟨⟨H.out.ints.1, H.out.ints.2.1, H.out.ints.2.2.1, H.out.ints.2.2.2.1, H.out.ints.2.2.2.2.1, H.out.ints.2.2.2.2.2.1, H.out.ints.2.2.2.2.2.2.1, H.out.ints.2.2.2.2.2.2.2.1, H.out.ints.2.2.2.2.2.2.2.2⟩, ⟨(Nat.zero_le _), H.out.texts.2.1, H.out.texts.2.2.1, H.out.texts.2.2.2.1, H.out.texts.2.2.2.2.1, H.out.texts.2.2.2.2.2.1, H.out.texts.2.2.2.2.2.2.1, H.out.texts.2.2.2.2.2.2.2⟩, H.out.filter.no HW1.out, H.out.wants.no HW1.out, ⟨none, 0, rfl, Nat.le_refl _, by show (0 : Nat) ≤ _; omega, .inl rfl⟩, H.out.mods.noM HW1.out⟩
  have hcall := pemptyM_any M E { m with name := [], list := [] } (vk) (va) (vw) (.slice none 0 0) (vm) s1 HMM
  have hcells : mcs { m with name := [], list := [] } (vk) (va) (vw) (.slice none 0 0) (vm) = [.int .i64 m.id, .int .i64 104, .int .i64 m.ver, .string ⟨#[]⟩, .string (sb m.pw), .int .i64 m.scope, .int .i64 m.deref, .int .i64 m.size, .int .i64 m.time, .bool m.typesOnly, .int .i64 m.filter.kind, vk, .string (sb m.filter.type), .string (sb m.filter.value), .string (sb m.filter.first), va, .string (sb m.filter.last), vw, .slice none 0 0, vm, .string (sb m.rdn), .bool m.dropOld, .bool m.moves, .string (sb m.sup), .string (sb m.type), .string (sb m.value), .int .i64 m.target, .int .i64 m.code, .string (sb m.matched), .string (sb m.text)] := by unfold mcs; simp only [HOP.out]; try rfl
  rw [hcells] at hcall
  refine hcall.mono ?_
  rintro e w9 ⟨rfl, f9⟩
  rw [HEO.out]
  have HF9 := hid (HW1.out.trans' f9)
  clear f9 hcall hcells HMM
  go_wp2_with fail
  go_ret
  exact ⟨by cases EO <;> rfl, HF9.out⟩
end Go.Proofs.Ythjmkfpdbbfcpaa.ME
