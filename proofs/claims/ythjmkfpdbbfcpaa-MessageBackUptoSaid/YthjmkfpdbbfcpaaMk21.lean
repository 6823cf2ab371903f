/-
  Part 21 of the proof: MpI2.
-/
import Derived.Test.YthjmkfpdbbfcpaaMk12
set_option linter.unusedSimpArgs false
set_option linter.unusedVariables false
namespace Go.Proofs.Ythjmkfpdbbfcpaa.ME
set_option maxRecDepth 100000
open Go.RowKit K Go.Proofs.Ythjmkfpdbbfcpaa.BE Go.Proofs.Ythjmkfpdbbfcpaa.FR

theorem right_100 (m : Msg) (hop : m.op = 100) : rightM m = (inI m.id 0 2147483647 && emptyM { m with name := [], list := [] }) := by
  have hmods : m.mods.isEmpty = true → m.mods.all (fun x => inI x.doing 0 2) = true := fun h => by rw [List.isEmpty_iff.1 h]; rfl
  have h0 : emptyF fl0 = true := rfl
  have hn : ([] : B).isEmpty = true := rfl
  rw [Bool.eq_iff_iff]
  simp only [rightM, emptyM, searchOk, hop]
  cases hmv : m.moves <;> simp [namO, ansO, h0] <;> constructor <;> intro h <;> simp_all
set_option maxHeartbeats 16000000 in
theorem pright_100 (M : Nat) (E : Nat → Prop) (m : Msg) (vk va vw vl vm : Value) (w : World) (h : MsgC M E w m vk va vw vl vm) (hop : m.op = 100) : Calls Try.prog 20 #[.agg (mcs m vk va vw vl vm).toArray] w fun e w' => e = .returned (.bool (rightM m)) ∧ Fr No w w' := by
  rw [right_100 m hop]
  have H := hid h; have HOP := hid hop
  have e : mcs m vk va vw vl vm = [.int .i64 m.id, .int .i64 100, .int .i64 m.ver, .string (sb m.name), .string (sb m.pw), .int .i64 m.scope, .int .i64 m.deref, .int .i64 m.size, .int .i64 m.time, .bool m.typesOnly, .int .i64 m.filter.kind, vk, .string (sb m.filter.type), .string (sb m.filter.value), .string (sb m.filter.first), va, .string (sb m.filter.last), vw, vl, vm, .string (sb m.rdn), .bool m.dropOld, .bool m.moves, .string (sb m.sup), .string (sb m.type), .string (sb m.value), .int .i64 m.target, .int .i64 m.code, .string (sb m.matched), .string (sb m.text)] := by unfold mcs; rw [hop]
  rw [e]
  have HE := hid e
  clear e
  clear h hop
  obtain ⟨b0, hb0⟩ : ∃ b, inI m.id 0 2147483647 = b := ⟨_, rfl⟩
  rw [hb0]
  have HB_0 := hid hb0
  clear hb0
  obtain ⟨EO, hEO⟩ : ∃ b, emptyM { m with name := [], list := [] } = b := ⟨_, rfl⟩
  rw [hEO]
  have HEO := hid hEO
  clear hEO
  go_enter Try.func20, Try.ntmps20
  go_wp2_with (first
    | ((with_reducible refine K.atO (.box 29 _) ?_); refine wpL_box rfl _ _ rfl _ rfl [.int .i64 m.id, .int .i64 100, .int .i64 m.ver, .string (sb m.name), .string (sb m.pw), .int .i64 m.scope, .int .i64 m.deref, .int .i64 m.size, .int .i64 m.time, .bool m.typesOnly, .int .i64 m.filter.kind, vk, .string (sb m.filter.type), .string (sb m.filter.value), .string (sb m.filter.first), va, .string (sb m.filter.last), vw, vl, vm, .string (sb m.rdn), .bool m.dropOld, .bool m.moves, .string (sb m.sup), .string (sb m.type), .string (sb m.value), .int .i64 m.target, .int .i64 m.code, .string (sb m.matched), .string (sb m.text)] rfl ?_; intro w1 HB1 F1 HS1; have c0 : w1.cell? ⟨w.heap.size, 0, none⟩ = some (.int .i64 m.id) := HB1.out.cell 0; have c1 : w1.cell? ⟨w.heap.size, 1, none⟩ = some (.int .i64 100) := HB1.out.cell 1)
    | fail)
  refine (pnumber_any m.id w1).mono ?_
  rintro e x0 ⟨rfl, hx0⟩
  have hy0 := hx0.symm
  subst hy0
  rw [HB_0.out]
  cases b0 with
  | false =>
    go_wp2_with (first
      | ((with_reducible refine K.atO (.store 9 _ _) ?_); (fail_if_success (have := HZ0)); refine wpL_setV rfl _ _ _ rfl w.heap.size 3 (.string ⟨#[]⟩) rfl rfl rfl rfl _ _ HB1.out (by simp) infoS ?_; intro s0 HY0 FY0 HSY0; have HZ0 := HY0; have HW0 := hid (F1.out.trans FY0.out fun k e => .inr (by have e : k = w.heap.size := e; omega)))
      | ((with_reducible refine K.atO (.store 26 _ _) ?_); (fail_if_success (have := HZ1)); (have := HZ0); refine wpL_setV rfl _ _ _ rfl w.heap.size 18 (.slice none 0 0) rfl rfl rfl rfl _ _ HZ0.out (by simp) infoAts ?_; intro s1 HY1 FY1 HSY1; have HZ1 := HY1; have HW1 := hid (HW0.out.trans FY1.out fun k e => .inr (by have e : k = w.heap.size := e; omega)))
      | fail)
    go_ret
    exact ⟨by simp, HW1.out⟩
  | true =>
  go_wp2_with (first
    | ((with_reducible refine K.atO (.store 9 _ _) ?_); (fail_if_success (have := HZ0)); refine wpL_setV rfl _ _ _ rfl w.heap.size 3 (.string ⟨#[]⟩) rfl rfl rfl rfl _ _ HB1.out (by simp) infoS ?_; intro s0 HY0 FY0 HSY0; have HZ0 := HY0; have HW0 := hid (F1.out.trans FY0.out fun k e => .inr (by have e : k = w.heap.size := e; omega)))
    | ((with_reducible refine K.atO (.store 26 _ _) ?_); (fail_if_success (have := HZ1)); (have := HZ0); refine wpL_setV rfl _ _ _ rfl w.heap.size 18 (.slice none 0 0) rfl rfl rfl rfl _ _ HZ0.out (by simp) infoAts ?_; intro s1 HY1 FY1 HSY1; have HZ1 := HY1; have HW1 := hid (HW0.out.trans FY1.out fun k e => .inr (by have e : k = w.heap.size := e; omega)))
    | ((with_reducible refine K.atO (.load 29 _) ?_); refine wpL_valZ (by rfl) (.agg #[.int .i64 m.id, .int .i64 100, .int .i64 m.ver, .string ⟨#[]⟩, .string (sb m.pw), .int .i64 m.scope, .int .i64 m.deref, .int .i64 m.size, .int .i64 m.time, .bool m.typesOnly, .int .i64 m.filter.kind, vk, .string (sb m.filter.type), .string (sb m.filter.value), .string (sb m.filter.first), va, .string (sb m.filter.last), vw, .slice none 0 0, vm, .string (sb m.rdn), .bool m.dropOld, .bool m.moves, .string (sb m.sup), .string (sb m.type), .string (sb m.value), .int .i64 m.target, .int .i64 m.code, .string (sb m.matched), .string (sb m.text)]) (exec_load _ _ rfl w.heap.size 0 rfl [.int .i64 m.id, .int .i64 100, .int .i64 m.ver, .string ⟨#[]⟩, .string (sb m.pw), .int .i64 m.scope, .int .i64 m.deref, .int .i64 m.size, .int .i64 m.time, .bool m.typesOnly, .int .i64 m.filter.kind, vk, .string (sb m.filter.type), .string (sb m.filter.value), .string (sb m.filter.first), va, .string (sb m.filter.last), vw, .slice none 0 0, vm, .string (sb m.rdn), .bool m.dropOld, .bool m.moves, .string (sb m.sup), .string (sb m.type), .string (sb m.value), .int .i64 m.target, .int .i64 m.code, .string (sb m.matched), .string (sb m.text)] _ rfl rfl infoMsg _ (HZ1.out.range 0 _ rfl)) ?_)
    | fail)
  have HMM : MsgC M E s1 { m with name := [], list := [] } (vk) (va) (vw) (.slice none 0 0) (vm) := ⟨⟨H.out.ints.1, H.out.ints.2.1, H.out.ints.2.2.1, H.out.ints.2.2.2.1, H.out.ints.2.2.2.2.1, H.out.ints.2.2.2.2.2.1, H.out.ints.2.2.2.2.2.2.1, H.out.ints.2.2.2.2.2.2.2.1, H.out.ints.2.2.2.2.2.2.2.2⟩, ⟨(Nat.zero_le _), H.out.texts.2.1, H.out.texts.2.2.1, H.out.texts.2.2.2.1, H.out.texts.2.2.2.2.1, H.out.texts.2.2.2.2.2.1, H.out.texts.2.2.2.2.2.2.1, H.out.texts.2.2.2.2.2.2.2⟩, H.out.filter.no HW1.out, H.out.wants.no HW1.out, ⟨none, 0, rfl, Nat.le_refl _, by show (0 : Nat) ≤ _; omega, .inl rfl⟩, H.out.mods.noM HW1.out⟩
  have hcall := pemptyM_any M E { m with name := [], list := [] } (vk) (va) (vw) (.slice none 0 0) (vm) s1 HMM
  have hcells : mcs { m with name := [], list := [] } (vk) (va) (vw) (.slice none 0 0) (vm) = [.int .i64 m.id, .int .i64 100, .int .i64 m.ver, .string ⟨#[]⟩, .string (sb m.pw), .int .i64 m.scope, .int .i64 m.deref, .int .i64 m.size, .int .i64 m.time, .bool m.typesOnly, .int .i64 m.filter.kind, vk, .string (sb m.filter.type), .string (sb m.filter.value), .string (sb m.filter.first), va, .string (sb m.filter.last), vw, .slice none 0 0, vm, .string (sb m.rdn), .bool m.dropOld, .bool m.moves, .string (sb m.sup), .string (sb m.type), .string (sb m.value), .int .i64 m.target, .int .i64 m.code, .string (sb m.matched), .string (sb m.text)] := by unfold mcs; simp only [HOP.out]; try rfl
  rw [hcells] at hcall
  refine hcall.mono ?_
  rintro e w9 ⟨rfl, f9⟩
  rw [HEO.out]
  have HF9 := hid (HW1.out.trans' f9)
  clear f9 hcall hcells HMM
  go_wp2_with fail
  go_ret
  exact ⟨by cases EO <;> rfl, HF9.out⟩
theorem right_74 (m : Msg) (hop : m.op = 74) : rightM m = (inI m.id 0 2147483647 && emptyM { m with name := [] }) := by
  have hmods : m.mods.isEmpty = true → m.mods.all (fun x => inI x.doing 0 2) = true := fun h => by rw [List.isEmpty_iff.1 h]; rfl
  have h0 : emptyF fl0 = true := rfl
  have hn : ([] : B).isEmpty = true := rfl
  rw [Bool.eq_iff_iff]
  simp only [rightM, emptyM, searchOk, hop]
  cases hmv : m.moves <;> simp [namO, ansO, h0] <;> constructor <;> intro h <;> simp_all
set_option maxHeartbeats 16000000 in
theorem pright_74 (M : Nat) (E : Nat → Prop) (m : Msg) (vk va vw vl vm : Value) (w : World) (h : MsgC M E w m vk va vw vl vm) (hop : m.op = 74) : Calls Try.prog 20 #[.agg (mcs m vk va vw vl vm).toArray] w fun e w' => e = .returned (.bool (rightM m)) ∧ Fr No w w' := by
  rw [right_74 m hop]
  have H := hid h; have HOP := hid hop
  have e : mcs m vk va vw vl vm = [.int .i64 m.id, .int .i64 74, .int .i64 m.ver, .string (sb m.name), .string (sb m.pw), .int .i64 m.scope, .int .i64 m.deref, .int .i64 m.size, .int .i64 m.time, .bool m.typesOnly, .int .i64 m.filter.kind, vk, .string (sb m.filter.type), .string (sb m.filter.value), .string (sb m.filter.first), va, .string (sb m.filter.last), vw, vl, vm, .string (sb m.rdn), .bool m.dropOld, .bool m.moves, .string (sb m.sup), .string (sb m.type), .string (sb m.value), .int .i64 m.target, .int .i64 m.code, .string (sb m.matched), .string (sb m.text)] := by unfold mcs; rw [hop]
  rw [e]
  have HE := hid e
  clear e
  clear h hop
  obtain ⟨b0, hb0⟩ : ∃ b, inI m.id 0 2147483647 = b := ⟨_, rfl⟩
  rw [hb0]
  have HB_0 := hid hb0
  clear hb0
  obtain ⟨EO, hEO⟩ : ∃ b, emptyM { m with name := [] } = b := ⟨_, rfl⟩
  rw [hEO]
  have HEO := hid hEO
  clear hEO
  go_enter Try.func20, Try.ntmps20
  go_wp2_with (first
    | ((with_reducible refine K.atO (.box 29 _) ?_); refine wpL_box rfl _ _ rfl _ rfl [.int .i64 m.id, .int .i64 74, .int .i64 m.ver, .string (sb m.name), .string (sb m.pw), .int .i64 m.scope, .int .i64 m.deref, .int .i64 m.size, .int .i64 m.time, .bool m.typesOnly, .int .i64 m.filter.kind, vk, .string (sb m.filter.type), .string (sb m.filter.value), .string (sb m.filter.first), va, .string (sb m.filter.last), vw, vl, vm, .string (sb m.rdn), .bool m.dropOld, .bool m.moves, .string (sb m.sup), .string (sb m.type), .string (sb m.value), .int .i64 m.target, .int .i64 m.code, .string (sb m.matched), .string (sb m.text)] rfl ?_; intro w1 HB1 F1 HS1; have c0 : w1.cell? ⟨w.heap.size, 0, none⟩ = some (.int .i64 m.id) := HB1.out.cell 0; have c1 : w1.cell? ⟨w.heap.size, 1, none⟩ = some (.int .i64 74) := HB1.out.cell 1)
    | fail)
  refine (pnumber_any m.id w1).mono ?_
  rintro e x0 ⟨rfl, hx0⟩
  have hy0 := hx0.symm
  subst hy0
  rw [HB_0.out]
  cases b0 with
  | false =>
    go_wp2_with (first
      | ((with_reducible refine K.atO (.store 9 _ _) ?_); (fail_if_success (have := HZ0)); refine wpL_setV rfl _ _ _ rfl w.heap.size 3 (.string ⟨#[]⟩) rfl rfl rfl rfl _ _ HB1.out (by simp) infoS ?_; intro s0 HY0 FY0 HSY0; have HZ0 := HY0; have HW0 := hid (F1.out.trans FY0.out fun k e => .inr (by have e : k = w.heap.size := e; omega)))
      | fail)
    go_ret
    exact ⟨by simp, HW0.out⟩
  | true =>
  go_wp2_with (first
    | ((with_reducible refine K.atO (.store 9 _ _) ?_); (fail_if_success (have := HZ0)); refine wpL_setV rfl _ _ _ rfl w.heap.size 3 (.string ⟨#[]⟩) rfl rfl rfl rfl _ _ HB1.out (by simp) infoS ?_; intro s0 HY0 FY0 HSY0; have HZ0 := HY0; have HW0 := hid (F1.out.trans FY0.out fun k e => .inr (by have e : k = w.heap.size := e; omega)))
    | ((with_reducible refine K.atO (.load 29 _) ?_); refine wpL_valZ (by rfl) (.agg #[.int .i64 m.id, .int .i64 74, .int .i64 m.ver, .string ⟨#[]⟩, .string (sb m.pw), .int .i64 m.scope, .int .i64 m.deref, .int .i64 m.size, .int .i64 m.time, .bool m.typesOnly, .int .i64 m.filter.kind, vk, .string (sb m.filter.type), .string (sb m.filter.value), .string (sb m.filter.first), va, .string (sb m.filter.last), vw, vl, vm, .string (sb m.rdn), .bool m.dropOld, .bool m.moves, .string (sb m.sup), .string (sb m.type), .string (sb m.value), .int .i64 m.target, .int .i64 m.code, .string (sb m.matched), .string (sb m.text)]) (exec_load _ _ rfl w.heap.size 0 rfl [.int .i64 m.id, .int .i64 74, .int .i64 m.ver, .string ⟨#[]⟩, .string (sb m.pw), .int .i64 m.scope, .int .i64 m.deref, .int .i64 m.size, .int .i64 m.time, .bool m.typesOnly, .int .i64 m.filter.kind, vk, .string (sb m.filter.type), .string (sb m.filter.value), .string (sb m.filter.first), va, .string (sb m.filter.last), vw, vl, vm, .string (sb m.rdn), .bool m.dropOld, .bool m.moves, .string (sb m.sup), .string (sb m.type), .string (sb m.value), .int .i64 m.target, .int .i64 m.code, .string (sb m.matched), .string (sb m.text)] _ rfl rfl infoMsg _ (HZ0.out.range 0 _ rfl)) ?_)
    | fail)
  have HMM : MsgC M E s0 { m with name := [] } (vk) (va) (vw) (vl) (vm) := ⟨⟨H.out.ints.1, H.out.ints.2.1, H.out.ints.2.2.1, H.out.ints.2.2.2.1, H.out.ints.2.2.2.2.1, H.out.ints.2.2.2.2.2.1, H.out.ints.2.2.2.2.2.2.1, H.out.ints.2.2.2.2.2.2.2.1, H.out.ints.2.2.2.2.2.2.2.2⟩, ⟨(Nat.zero_le _), H.out.texts.2.1, H.out.texts.2.2.1, H.out.texts.2.2.2.1, H.out.texts.2.2.2.2.1, H.out.texts.2.2.2.2.2.1, H.out.texts.2.2.2.2.2.2.1, H.out.texts.2.2.2.2.2.2.2⟩, H.out.filter.no HW0.out, H.out.wants.no HW0.out, H.out.list.noA HW0.out, H.out.mods.noM HW0.out⟩
  have hcall := pemptyM_any M E { m with name := [] } (vk) (va) (vw) (vl) (vm) s0 HMM
  have hcells : mcs { m with name := [] } (vk) (va) (vw) (vl) (vm) = [.int .i64 m.id, .int .i64 74, .int .i64 m.ver, .string ⟨#[]⟩, .string (sb m.pw), .int .i64 m.scope, .int .i64 m.deref, .int .i64 m.size, .int .i64 m.time, .bool m.typesOnly, .int .i64 m.filter.kind, vk, .string (sb m.filter.type), .string (sb m.filter.value), .string (sb m.filter.first), va, .string (sb m.filter.last), vw, vl, vm, .string (sb m.rdn), .bool m.dropOld, .bool m.moves, .string (sb m.sup), .string (sb m.type), .string (sb m.value), .int .i64 m.target, .int .i64 m.code, .string (sb m.matched), .string (sb m.text)] := by unfold mcs; simp only [HOP.out]; try rfl
  rw [hcells] at hcall
  refine hcall.mono ?_
  rintro e w9 ⟨rfl, f9⟩
  rw [HEO.out]
  have HF9 := hid (HW0.out.trans' f9)
  clear f9 hcall hcells HMM
  go_wp2_with fail
  go_ret
  exact ⟨by cases EO <;> rfl, HF9.out⟩
theorem right_110 (m : Msg) (hop : m.op = 110) : rightM m = (inI m.id 0 2147483647 && emptyM { m with name := [], type := [], value := [] }) := by
  have hmods : m.mods.isEmpty = true → m.mods.all (fun x => inI x.doing 0 2) = true := fun h => by rw [List.isEmpty_iff.1 h]; rfl
  have h0 : emptyF fl0 = true := rfl
  have hn : ([] : B).isEmpty = true := rfl
  rw [Bool.eq_iff_iff]
  simp only [rightM, emptyM, searchOk, hop]
  cases hmv : m.moves <;> simp [namO, ansO, h0] <;> constructor <;> intro h <;> simp_all
set_option maxHeartbeats 16000000 in
theorem pright_110 (M : Nat) (E : Nat → Prop) (m : Msg) (vk va vw vl vm : Value) (w : World) (h : MsgC M E w m vk va vw vl vm) (hop : m.op = 110) : Calls Try.prog 20 #[.agg (mcs m vk va vw vl vm).toArray] w fun e w' => e = .returned (.bool (rightM m)) ∧ Fr No w w' := by
  rw [right_110 m hop]
  have H := hid h; have HOP := hid hop
  have e : mcs m vk va vw vl vm = [.int .i64 m.id, .int .i64 110, .int .i64 m.ver, .string (sb m.name), .string (sb m.pw), .int .i64 m.scope, .int .i64 m.deref, .int .i64 m.size, .int .i64 m.time, .bool m.typesOnly, .int .i64 m.filter.kind, vk, .string (sb m.filter.type), .string (sb m.filter.value), .string (sb m.filter.first), va, .string (sb m.filter.last), vw, vl, vm, .string (sb m.rdn), .bool m.dropOld, .bool m.moves, .string (sb m.sup), .string (sb m.type), .string (sb m.value), .int .i64 m.target, .int .i64 m.code, .string (sb m.matched), .string (sb m.text)] := by unfold mcs; rw [hop]
  rw [e]
  have HE := hid e
  clear e
  clear h hop
  obtain ⟨b0, hb0⟩ : ∃ b, inI m.id 0 2147483647 = b := ⟨_, rfl⟩
  rw [hb0]
  have HB_0 := hid hb0
  clear hb0
  obtain ⟨EO, hEO⟩ : ∃ b, emptyM { m with name := [], type := [], value := [] } = b := ⟨_, rfl⟩
  rw [hEO]
  have HEO := hid hEO
  clear hEO
  go_enter Try.func20, Try.ntmps20
  go_wp2_with (first
    | ((with_reducible refine K.atO (.box 29 _) ?_); refine wpL_box rfl _ _ rfl _ rfl [.int .i64 m.id, .int .i64 110, .int .i64 m.ver, .string (sb m.name), .string (sb m.pw), .int .i64 m.scope, .int .i64 m.deref, .int .i64 m.size, .int .i64 m.time, .bool m.typesOnly, .int .i64 m.filter.kind, vk, .string (sb m.filter.type), .string (sb m.filter.value), .string (sb m.filter.first), va, .string (sb m.filter.last), vw, vl, vm, .string (sb m.rdn), .bool m.dropOld, .bool m.moves, .string (sb m.sup), .string (sb m.type), .string (sb m.value), .int .i64 m.target, .int .i64 m.code, .string (sb m.matched), .string (sb m.text)] rfl ?_; intro w1 HB1 F1 HS1; have c0 : w1.cell? ⟨w.heap.size, 0, none⟩ = some (.int .i64 m.id) := HB1.out.cell 0; have c1 : w1.cell? ⟨w.heap.size, 1, none⟩ = some (.int .i64 110) := HB1.out.cell 1)
    | fail)
  refine (pnumber_any m.id w1).mono ?_
  rintro e x0 ⟨rfl, hx0⟩
  have hy0 := hx0.symm
  subst hy0
  rw [HB_0.out]
  cases b0 with
  | false =>
    go_wp2_with (first
      | ((with_reducible refine K.atO (.store 9 _ _) ?_); (fail_if_success (have := HZ0)); refine wpL_setV rfl _ _ _ rfl w.heap.size 3 (.string ⟨#[]⟩) rfl rfl rfl rfl _ _ HB1.out (by simp) infoS ?_; intro s0 HY0 FY0 HSY0; have HZ0 := HY0; have HW0 := hid (F1.out.trans FY0.out fun k e => .inr (by have e : k = w.heap.size := e; omega)))
      | ((with_reducible refine K.atO (.store 9 _ _) ?_); (fail_if_success (have := HZ1)); (have := HZ0); refine wpL_setV rfl _ _ _ rfl w.heap.size 24 (.string ⟨#[]⟩) rfl rfl rfl rfl _ _ HZ0.out (by simp) infoS ?_; intro s1 HY1 FY1 HSY1; have HZ1 := HY1; have HW1 := hid (HW0.out.trans FY1.out fun k e => .inr (by have e : k = w.heap.size := e; omega)))
      | ((with_reducible refine K.atO (.store 9 _ _) ?_); (fail_if_success (have := HZ2)); (have := HZ1); refine wpL_setV rfl _ _ _ rfl w.heap.size 25 (.string ⟨#[]⟩) rfl rfl rfl rfl _ _ HZ1.out (by simp) infoS ?_; intro s2 HY2 FY2 HSY2; have HZ2 := HY2; have HW2 := hid (HW1.out.trans FY2.out fun k e => .inr (by have e : k = w.heap.size := e; omega)))
      | fail)
    go_ret
    exact ⟨by simp, HW2.out⟩
  | true =>
  go_wp2_with (first
    | ((with_reducible refine K.atO (.store 9 _ _) ?_); (fail_if_success (have := HZ0)); refine wpL_setV rfl _ _ _ rfl w.heap.size 3 (.string ⟨#[]⟩) rfl rfl rfl rfl _ _ HB1.out (by simp) infoS ?_; intro s0 HY0 FY0 HSY0; have HZ0 := HY0; have HW0 := hid (F1.out.trans FY0.out fun k e => .inr (by have e : k = w.heap.size := e; omega)))
    | ((with_reducible refine K.atO (.store 9 _ _) ?_); (fail_if_success (have := HZ1)); (have := HZ0); refine wpL_setV rfl _ _ _ rfl w.heap.size 24 (.string ⟨#[]⟩) rfl rfl rfl rfl _ _ HZ0.out (by simp) infoS ?_; intro s1 HY1 FY1 HSY1; have HZ1 := HY1; have HW1 := hid (HW0.out.trans FY1.out fun k e => .inr (by have e : k = w.heap.size := e; omega)))
    | ((with_reducible refine K.atO (.store 9 _ _) ?_); (fail_if_success (have := HZ2)); (have := HZ1); refine wpL_setV rfl _ _ _ rfl w.heap.size 25 (.string ⟨#[]⟩) rfl rfl rfl rfl _ _ HZ1.out (by simp) infoS ?_; intro s2 HY2 FY2 HSY2; have HZ2 := HY2; have HW2 := hid (HW1.out.trans FY2.out fun k e => .inr (by have e : k = w.heap.size := e; omega)))
    | ((with_reducible refine K.atO (.load 29 _) ?_); refine wpL_valZ (by rfl) (.agg #[.int .i64 m.id, .int .i64 110, .int .i64 m.ver, .string ⟨#[]⟩, .string (sb m.pw), .int .i64 m.scope, .int .i64 m.deref, .int .i64 m.size, .int .i64 m.time, .bool m.typesOnly, .int .i64 m.filter.kind, vk, .string (sb m.filter.type), .string (sb m.filter.value), .string (sb m.filter.first), va, .string (sb m.filter.last), vw, vl, vm, .string (sb m.rdn), .bool m.dropOld, .bool m.moves, .string (sb m.sup), .string ⟨#[]⟩, .string ⟨#[]⟩, .int .i64 m.target, .int .i64 m.code, .string (sb m.matched), .string (sb m.text)]) (exec_load _ _ rfl w.heap.size 0 rfl [.int .i64 m.id, .int .i64 110, .int .i64 m.ver, .string ⟨#[]⟩, .string (sb m.pw), .int .i64 m.scope, .int .i64 m.deref, .int .i64 m.size, .int .i64 m.time, .bool m.typesOnly, .int .i64 m.filter.kind, vk, .string (sb m.filter.type), .string (sb m.filter.value), .string (sb m.filter.first), va, .string (sb m.filter.last), vw, vl, vm, .string (sb m.rdn), .bool m.dropOld, .bool m.moves, .string (sb m.sup), .string ⟨#[]⟩, .string ⟨#[]⟩, .int .i64 m.target, .int .i64 m.code, .string (sb m.matched), .string (sb m.text)] _ rfl rfl infoMsg _ (HZ2.out.range 0 _ rfl)) ?_)
    | fail)
  have HMM : MsgC M E s2 { m with name := [], type := [], value := [] } (vk) (va) (vw) (vl) (vm) := ⟨⟨H.out.ints.1, H.out.ints.2.1, H.out.ints.2.2.1, H.out.ints.2.2.2.1, H.out.ints.2.2.2.2.1, H.out.ints.2.2.2.2.2.1, H.out.ints.2.2.2.2.2.2.1, H.out.ints.2.2.2.2.2.2.2.1, H.out.ints.2.2.2.2.2.2.2.2⟩, ⟨(Nat.zero_le _), H.out.texts.2.1, H.out.texts.2.2.1, H.out.texts.2.2.2.1, (Nat.zero_le _), (Nat.zero_le _), H.out.texts.2.2.2.2.2.2.1, H.out.texts.2.2.2.2.2.2.2⟩, H.out.filter.no HW2.out, H.out.wants.no HW2.out, H.out.list.noA HW2.out, H.out.mods.noM HW2.out⟩
  have hcall := pemptyM_any M E { m with name := [], type := [], value := [] } (vk) (va) (vw) (vl) (vm) s2 HMM
  have hcells : mcs { m with name := [], type := [], value := [] } (vk) (va) (vw) (vl) (vm) = [.int .i64 m.id, .int .i64 110, .int .i64 m.ver, .string ⟨#[]⟩, .string (sb m.pw), .int .i64 m.scope, .int .i64 m.deref, .int .i64 m.size, .int .i64 m.time, .bool m.typesOnly, .int .i64 m.filter.kind, vk, .string (sb m.filter.type), .string (sb m.filter.value), .string (sb m.filter.first), va, .string (sb m.filter.last), vw, vl, vm, .string (sb m.rdn), .bool m.dropOld, .bool m.moves, .string (sb m.sup), .string ⟨#[]⟩, .string ⟨#[]⟩, .int .i64 m.target, .int .i64 m.code, .string (sb m.matched), .string (sb m.text)] := by unfold mcs; simp only [HOP.out]; try rfl
  rw [hcells] at hcall
  refine hcall.mono ?_
  rintro e w9 ⟨rfl, f9⟩
  rw [HEO.out]
  have HF9 := hid (HW2.out.trans' f9)
  clear f9 hcall hcells HMM
  go_wp2_with fail
  go_ret
  exact ⟨by cases EO <;> rfl, HF9.out⟩
theorem right_80 (m : Msg) (hop : m.op = 80) : rightM m = (inI m.id 0 2147483647 && inI m.target 0 2147483647 && emptyM { m with target := 0 }) := by
  have hmods : m.mods.isEmpty = true → m.mods.all (fun x => inI x.doing 0 2) = true := fun h => by rw [List.isEmpty_iff.1 h]; rfl
  have h0 : emptyF fl0 = true := rfl
  have hn : ([] : B).isEmpty = true := rfl
  rw [Bool.eq_iff_iff]
  simp only [rightM, emptyM, searchOk, hop]
  cases hmv : m.moves <;> simp [namO, ansO, h0] <;> constructor <;> intro h <;> simp_all
set_option maxHeartbeats 16000000 in
theorem pright_80 (M : Nat) (E : Nat → Prop) (m : Msg) (vk va vw vl vm : Value) (w : World) (h : MsgC M E w m vk va vw vl vm) (hop : m.op = 80) : Calls Try.prog 20 #[.agg (mcs m vk va vw vl vm).toArray] w fun e w' => e = .returned (.bool (rightM m)) ∧ Fr No w w' := by
  rw [right_80 m hop]
  have H := hid h; have HOP := hid hop
  have e : mcs m vk va vw vl vm = [.int .i64 m.id, .int .i64 80, .int .i64 m.ver, .string (sb m.name), .string (sb m.pw), .int .i64 m.scope, .int .i64 m.deref, .int .i64 m.size, .int .i64 m.time, .bool m.typesOnly, .int .i64 m.filter.kind, vk, .string (sb m.filter.type), .string (sb m.filter.value), .string (sb m.filter.first), va, .string (sb m.filter.last), vw, vl, vm, .string (sb m.rdn), .bool m.dropOld, .bool m.moves, .string (sb m.sup), .string (sb m.type), .string (sb m.value), .int .i64 m.target, .int .i64 m.code, .string (sb m.matched), .string (sb m.text)] := by unfold mcs; rw [hop]
  rw [e]
  have HE := hid e
  clear e
  clear h hop
  obtain ⟨b0, hb0⟩ : ∃ b, inI m.id 0 2147483647 = b := ⟨_, rfl⟩
  rw [hb0]
  have HB_0 := hid hb0
  clear hb0
  obtain ⟨b1, hb1⟩ : ∃ b, (inI m.target 0 2147483647) = b := ⟨_, rfl⟩
  rw [hb1]
  have HB_1 := hid hb1
  clear hb1
  obtain ⟨EO, hEO⟩ : ∃ b, emptyM { m with target := 0 } = b := ⟨_, rfl⟩
  rw [hEO]
  have HEO := hid hEO
  clear hEO
  go_enter Try.func20, Try.ntmps20
  go_wp2_with (first
    | ((with_reducible refine K.atO (.box 29 _) ?_); refine wpL_box rfl _ _ rfl _ rfl [.int .i64 m.id, .int .i64 80, .int .i64 m.ver, .string (sb m.name), .string (sb m.pw), .int .i64 m.scope, .int .i64 m.deref, .int .i64 m.size, .int .i64 m.time, .bool m.typesOnly, .int .i64 m.filter.kind, vk, .string (sb m.filter.type), .string (sb m.filter.value), .string (sb m.filter.first), va, .string (sb m.filter.last), vw, vl, vm, .string (sb m.rdn), .bool m.dropOld, .bool m.moves, .string (sb m.sup), .string (sb m.type), .string (sb m.value), .int .i64 m.target, .int .i64 m.code, .string (sb m.matched), .string (sb m.text)] rfl ?_; intro w1 HB1 F1 HS1; have c0 : w1.cell? ⟨w.heap.size, 0, none⟩ = some (.int .i64 m.id) := HB1.out.cell 0; have c1 : w1.cell? ⟨w.heap.size, 1, none⟩ = some (.int .i64 80) := HB1.out.cell 1; have c26 : w1.cell? ⟨w.heap.size, 26, none⟩ = some (.int .i64 m.target) := HB1.out.cell 26)
    | fail)
  refine (pnumber_any m.id w1).mono ?_
  rintro e x0 ⟨rfl, hx0⟩
  have hy0 := hx0.symm
  subst hy0
  rw [HB_0.out]
  cases b0 with
  | false =>
    go_wp2_with (first
      | ((with_reducible refine K.atO (.store 3 _ _) ?_); (fail_if_success (have := HZ0)); refine wpL_setV rfl _ _ _ rfl w.heap.size 26 (.int .i64 0) rfl rfl rfl rfl _ _ HB1.out (by simp) infoI0 ?_; intro s0 HY0 FY0 HSY0; have HZ0 := HY0; have HW0 := hid (F1.out.trans FY0.out fun k e => .inr (by have e : k = w.heap.size := e; omega)))
      | fail)
    go_ret
    exact ⟨by simp, HW0.out⟩
  | true =>
  go_wp2_with fail
  refine (pnumber_any m.target w1).mono ?_
  rintro e x1 ⟨rfl, hx1⟩
  have hy1 := hx1.symm
  subst hy1
  rw [HB_1.out]
  cases b1 with
  | false =>
    go_wp2_with (first
      | ((with_reducible refine K.atO (.store 3 _ _) ?_); (fail_if_success (have := HZ0)); refine wpL_setV rfl _ _ _ rfl w.heap.size 26 (.int .i64 0) rfl rfl rfl rfl _ _ HB1.out (by simp) infoI0 ?_; intro s0 HY0 FY0 HSY0; have HZ0 := HY0; have HW0 := hid (F1.out.trans FY0.out fun k e => .inr (by have e : k = w.heap.size := e; omega)))
      | fail)
    go_ret
    exact ⟨by simp, HW0.out⟩
  | true =>
    go_wp2_with (first
      | ((with_reducible refine K.atO (.store 3 _ _) ?_); (fail_if_success (have := HZ0)); refine wpL_setV rfl _ _ _ rfl w.heap.size 26 (.int .i64 0) rfl rfl rfl rfl _ _ HB1.out (by simp) infoI0 ?_; intro s0 HY0 FY0 HSY0; have HZ0 := HY0; have HW0 := hid (F1.out.trans FY0.out fun k e => .inr (by have e : k = w.heap.size := e; omega)))
      | ((with_reducible refine K.atO (.load 29 _) ?_); refine wpL_valZ (by rfl) (.agg #[.int .i64 m.id, .int .i64 80, .int .i64 m.ver, .string (sb m.name), .string (sb m.pw), .int .i64 m.scope, .int .i64 m.deref, .int .i64 m.size, .int .i64 m.time, .bool m.typesOnly, .int .i64 m.filter.kind, vk, .string (sb m.filter.type), .string (sb m.filter.value), .string (sb m.filter.first), va, .string (sb m.filter.last), vw, vl, vm, .string (sb m.rdn), .bool m.dropOld, .bool m.moves, .string (sb m.sup), .string (sb m.type), .string (sb m.value), .int .i64 0, .int .i64 m.code, .string (sb m.matched), .string (sb m.text)]) (exec_load _ _ rfl w.heap.size 0 rfl [.int .i64 m.id, .int .i64 80, .int .i64 m.ver, .string (sb m.name), .string (sb m.pw), .int .i64 m.scope, .int .i64 m.deref, .int .i64 m.size, .int .i64 m.time, .bool m.typesOnly, .int .i64 m.filter.kind, vk, .string (sb m.filter.type), .string (sb m.filter.value), .string (sb m.filter.first), va, .string (sb m.filter.last), vw, vl, vm, .string (sb m.rdn), .bool m.dropOld, .bool m.moves, .string (sb m.sup), .string (sb m.type), .string (sb m.value), .int .i64 0, .int .i64 m.code, .string (sb m.matched), .string (sb m.text)] _ rfl rfl infoMsg _ (HZ0.out.range 0 _ rfl)) ?_)
      | fail)
    have HMM : MsgC M E s0 { m with target := 0 } (vk) (va) (vw) (vl) (vm) := ⟨⟨H.out.ints.1, H.out.ints.2.1, H.out.ints.2.2.1, H.out.ints.2.2.2.1, H.out.ints.2.2.2.2.1, H.out.ints.2.2.2.2.2.1, H.out.ints.2.2.2.2.2.2.1, i64z, H.out.ints.2.2.2.2.2.2.2.2⟩, ⟨H.out.texts.1, H.out.texts.2.1, H.out.texts.2.2.1, H.out.texts.2.2.2.1, H.out.texts.2.2.2.2.1, H.out.texts.2.2.2.2.2.1, H.out.texts.2.2.2.2.2.2.1, H.out.texts.2.2.2.2.2.2.2⟩, H.out.filter.no HW0.out, H.out.wants.no HW0.out, H.out.list.noA HW0.out, H.out.mods.noM HW0.out⟩
    have hcall := pemptyM_any M E { m with target := 0 } (vk) (va) (vw) (vl) (vm) s0 HMM
    have hcells : mcs { m with target := 0 } (vk) (va) (vw) (vl) (vm) = [.int .i64 m.id, .int .i64 80, .int .i64 m.ver, .string (sb m.name), .string (sb m.pw), .int .i64 m.scope, .int .i64 m.deref, .int .i64 m.size, .int .i64 m.time, .bool m.typesOnly, .int .i64 m.filter.kind, vk, .string (sb m.filter.type), .string (sb m.filter.value), .string (sb m.filter.first), va, .string (sb m.filter.last), vw, vl, vm, .string (sb m.rdn), .bool m.dropOld, .bool m.moves, .string (sb m.sup), .string (sb m.type), .string (sb m.value), .int .i64 0, .int .i64 m.code, .string (sb m.matched), .string (sb m.text)] := by unfold mcs; simp only [HOP.out]; try rfl
    rw [hcells] at hcall
    refine hcall.mono ?_
    rintro e w9 ⟨rfl, f9⟩
    rw [HEO.out]
    have HF9 := hid (HW0.out.trans' f9)
    clear f9 hcall hcells HMM
    go_wp2_with fail
    go_ret
    exact ⟨by cases EO <;> rfl, HF9.out⟩
theorem right_120 (m : Msg) (hop : m.op = 120) : rightM m = (inI m.id 0 2147483647 && inI m.code 0 127 && emptyM { m with code := 0, matched := [], text := [], name := [] }) := by
  have hmods : m.mods.isEmpty = true → m.mods.all (fun x => inI x.doing 0 2) = true := fun h => by rw [List.isEmpty_iff.1 h]; rfl
  have h0 : emptyF fl0 = true := rfl
  have hn : ([] : B).isEmpty = true := rfl
  rw [Bool.eq_iff_iff]
  simp only [rightM, emptyM, searchOk, hop]
  cases hmv : m.moves <;> simp [namO, ansO, h0] <;> constructor <;> intro h <;> simp_all
set_option maxHeartbeats 16000000 in
theorem pright_120 (M : Nat) (E : Nat → Prop) (m : Msg) (vk va vw vl vm : Value) (w : World) (h : MsgC M E w m vk va vw vl vm) (hop : m.op = 120) : Calls Try.prog 20 #[.agg (mcs m vk va vw vl vm).toArray] w fun e w' => e = .returned (.bool (rightM m)) ∧ Fr No w w' := by
  rw [right_120 m hop]
  have H := hid h; have HOP := hid hop
  have e : mcs m vk va vw vl vm = [.int .i64 m.id, .int .i64 120, .int .i64 m.ver, .string (sb m.name), .string (sb m.pw), .int .i64 m.scope, .int .i64 m.deref, .int .i64 m.size, .int .i64 m.time, .bool m.typesOnly, .int .i64 m.filter.kind, vk, .string (sb m.filter.type), .string (sb m.filter.value), .string (sb m.filter.first), va, .string (sb m.filter.last), vw, vl, vm, .string (sb m.rdn), .bool m.dropOld, .bool m.moves, .string (sb m.sup), .string (sb m.type), .string (sb m.value), .int .i64 m.target, .int .i64 m.code, .string (sb m.matched), .string (sb m.text)] := by unfold mcs; rw [hop]
  rw [e]
  have HE := hid e
  clear e
  clear h hop
  obtain ⟨b0, hb0⟩ : ∃ b, inI m.id 0 2147483647 = b := ⟨_, rfl⟩
  rw [hb0]
  have HB_0 := hid hb0
  clear hb0
  obtain ⟨b1, hb1⟩ : ∃ b, (inI m.code 0 127) = b := ⟨_, rfl⟩
  rw [hb1]
  have HB_1 := hid hb1
  clear hb1
  obtain ⟨EO, hEO⟩ : ∃ b, emptyM { m with code := 0, matched := [], text := [], name := [] } = b := ⟨_, rfl⟩
  rw [hEO]
  have HEO := hid hEO
  clear hEO
  go_enter Try.func20, Try.ntmps20
  go_wp2_with (first
    | ((with_reducible refine K.atO (.box 29 _) ?_); refine wpL_box rfl _ _ rfl _ rfl [.int .i64 m.id, .int .i64 120, .int .i64 m.ver, .string (sb m.name), .string (sb m.pw), .int .i64 m.scope, .int .i64 m.deref, .int .i64 m.size, .int .i64 m.time, .bool m.typesOnly, .int .i64 m.filter.kind, vk, .string (sb m.filter.type), .string (sb m.filter.value), .string (sb m.filter.first), va, .string (sb m.filter.last), vw, vl, vm, .string (sb m.rdn), .bool m.dropOld, .bool m.moves, .string (sb m.sup), .string (sb m.type), .string (sb m.value), .int .i64 m.target, .int .i64 m.code, .string (sb m.matched), .string (sb m.text)] rfl ?_; intro w1 HB1 F1 HS1; have c0 : w1.cell? ⟨w.heap.size, 0, none⟩ = some (.int .i64 m.id) := HB1.out.cell 0; have c1 : w1.cell? ⟨w.heap.size, 1, none⟩ = some (.int .i64 120) := HB1.out.cell 1; have c27 : w1.cell? ⟨w.heap.size, 27, none⟩ = some (.int .i64 m.code) := HB1.out.cell 27)
    | fail)
  refine (pnumber_any m.id w1).mono ?_
  rintro e x0 ⟨rfl, hx0⟩
  have hy0 := hx0.symm
  subst hy0
  rw [HB_0.out]
  cases b0 with
  | false =>
    go_wp2_with (first
      | ((with_reducible refine K.atO (.store 3 _ _) ?_); (fail_if_success (have := HZ0)); refine wpL_setV rfl _ _ _ rfl w.heap.size 27 (.int .i64 0) rfl rfl rfl rfl _ _ HB1.out (by simp) infoI0 ?_; intro s0 HY0 FY0 HSY0; have HZ0 := HY0; have HW0 := hid (F1.out.trans FY0.out fun k e => .inr (by have e : k = w.heap.size := e; omega)))
      | ((with_reducible refine K.atO (.store 9 _ _) ?_); (fail_if_success (have := HZ1)); (have := HZ0); refine wpL_setV rfl _ _ _ rfl w.heap.size 28 (.string ⟨#[]⟩) rfl rfl rfl rfl _ _ HZ0.out (by simp) infoS ?_; intro s1 HY1 FY1 HSY1; have HZ1 := HY1; have HW1 := hid (HW0.out.trans FY1.out fun k e => .inr (by have e : k = w.heap.size := e; omega)))
      | ((with_reducible refine K.atO (.store 9 _ _) ?_); (fail_if_success (have := HZ2)); (have := HZ1); refine wpL_setV rfl _ _ _ rfl w.heap.size 29 (.string ⟨#[]⟩) rfl rfl rfl rfl _ _ HZ1.out (by simp) infoS ?_; intro s2 HY2 FY2 HSY2; have HZ2 := HY2; have HW2 := hid (HW1.out.trans FY2.out fun k e => .inr (by have e : k = w.heap.size := e; omega)))
      | ((with_reducible refine K.atO (.store 9 _ _) ?_); (fail_if_success (have := HZ3)); (have := HZ2); refine wpL_setV rfl _ _ _ rfl w.heap.size 3 (.string ⟨#[]⟩) rfl rfl rfl rfl _ _ HZ2.out (by simp) infoS ?_; intro s3 HY3 FY3 HSY3; have HZ3 := HY3; have HW3 := hid (HW2.out.trans FY3.out fun k e => .inr (by have e : k = w.heap.size := e; omega)))
      | fail)
    go_ret
    exact ⟨by simp, HW3.out⟩
  | true =>
  go_wp2_with fail
  refine (pcode_any m.code w1).mono ?_
  rintro e x1 ⟨rfl, hx1⟩
  have hy1 := hx1.symm
  subst hy1
  rw [HB_1.out]
  cases b1 with
  | false =>
    go_wp2_with (first
      | ((with_reducible refine K.atO (.store 3 _ _) ?_); (fail_if_success (have := HZ0)); refine wpL_setV rfl _ _ _ rfl w.heap.size 27 (.int .i64 0) rfl rfl rfl rfl _ _ HB1.out (by simp) infoI0 ?_; intro s0 HY0 FY0 HSY0; have HZ0 := HY0; have HW0 := hid (F1.out.trans FY0.out fun k e => .inr (by have e : k = w.heap.size := e; omega)))
      | ((with_reducible refine K.atO (.store 9 _ _) ?_); (fail_if_success (have := HZ1)); (have := HZ0); refine wpL_setV rfl _ _ _ rfl w.heap.size 28 (.string ⟨#[]⟩) rfl rfl rfl rfl _ _ HZ0.out (by simp) infoS ?_; intro s1 HY1 FY1 HSY1; have HZ1 := HY1; have HW1 := hid (HW0.out.trans FY1.out fun k e => .inr (by have e : k = w.heap.size := e; omega)))
      | ((with_reducible refine K.atO (.store 9 _ _) ?_); (fail_if_success (have := HZ2)); (have := HZ1); refine wpL_setV rfl _ _ _ rfl w.heap.size 29 (.string ⟨#[]⟩) rfl rfl rfl rfl _ _ HZ1.out (by simp) infoS ?_; intro s2 HY2 FY2 HSY2; have HZ2 := HY2; have HW2 := hid (HW1.out.trans FY2.out fun k e => .inr (by have e : k = w.heap.size := e; omega)))
      | ((with_reducible refine K.atO (.store 9 _ _) ?_); (fail_if_success (have := HZ3)); (have := HZ2); refine wpL_setV rfl _ _ _ rfl w.heap.size 3 (.string ⟨#[]⟩) rfl rfl rfl rfl _ _ HZ2.out (by simp) infoS ?_; intro s3 HY3 FY3 HSY3; have HZ3 := HY3; have HW3 := hid (HW2.out.trans FY3.out fun k e => .inr (by have e : k = w.heap.size := e; omega)))
      | fail)
    go_ret
    exact ⟨by simp, HW3.out⟩
  | true =>
    go_wp2_with (first
      | ((with_reducible refine K.atO (.store 3 _ _) ?_); (fail_if_success (have := HZ0)); refine wpL_setV rfl _ _ _ rfl w.heap.size 27 (.int .i64 0) rfl rfl rfl rfl _ _ HB1.out (by simp) infoI0 ?_; intro s0 HY0 FY0 HSY0; have HZ0 := HY0; have HW0 := hid (F1.out.trans FY0.out fun k e => .inr (by have e : k = w.heap.size := e; omega)))
      | ((with_reducible refine K.atO (.store 9 _ _) ?_); (fail_if_success (have := HZ1)); (have := HZ0); refine wpL_setV rfl _ _ _ rfl w.heap.size 28 (.string ⟨#[]⟩) rfl rfl rfl rfl _ _ HZ0.out (by simp) infoS ?_; intro s1 HY1 FY1 HSY1; have HZ1 := HY1; have HW1 := hid (HW0.out.trans FY1.out fun k e => .inr (by have e : k = w.heap.size := e; omega)))
      | ((with_reducible refine K.atO (.store 9 _ _) ?_); (fail_if_success (have := HZ2)); (have := HZ1); refine wpL_setV rfl _ _ _ rfl w.heap.size 29 (.string ⟨#[]⟩) rfl rfl rfl rfl _ _ HZ1.out (by simp) infoS ?_; intro s2 HY2 FY2 HSY2; have HZ2 := HY2; have HW2 := hid (HW1.out.trans FY2.out fun k e => .inr (by have e : k = w.heap.size := e; omega)))
      | ((with_reducible refine K.atO (.store 9 _ _) ?_); (fail_if_success (have := HZ3)); (have := HZ2); refine wpL_setV rfl _ _ _ rfl w.heap.size 3 (.string ⟨#[]⟩) rfl rfl rfl rfl _ _ HZ2.out (by simp) infoS ?_; intro s3 HY3 FY3 HSY3; have HZ3 := HY3; have HW3 := hid (HW2.out.trans FY3.out fun k e => .inr (by have e : k = w.heap.size := e; omega)))
      | ((with_reducible refine K.atO (.load 29 _) ?_); refine wpL_valZ (by rfl) (.agg #[.int .i64 m.id, .int .i64 120, .int .i64 m.ver, .string ⟨#[]⟩, .string (sb m.pw), .int .i64 m.scope, .int .i64 m.deref, .int .i64 m.size, .int .i64 m.time, .bool m.typesOnly, .int .i64 m.filter.kind, vk, .string (sb m.filter.type), .string (sb m.filter.value), .string (sb m.filter.first), va, .string (sb m.filter.last), vw, vl, vm, .string (sb m.rdn), .bool m.dropOld, .bool m.moves, .string (sb m.sup), .string (sb m.type), .string (sb m.value), .int .i64 m.target, .int .i64 0, .string ⟨#[]⟩, .string ⟨#[]⟩]) (exec_load _ _ rfl w.heap.size 0 rfl [.int .i64 m.id, .int .i64 120, .int .i64 m.ver, .string ⟨#[]⟩, .string (sb m.pw), .int .i64 m.scope, .int .i64 m.deref, .int .i64 m.size, .int .i64 m.time, .bool m.typesOnly, .int .i64 m.filter.kind, vk, .string (sb m.filter.type), .string (sb m.filter.value), .string (sb m.filter.first), va, .string (sb m.filter.last), vw, vl, vm, .string (sb m.rdn), .bool m.dropOld, .bool m.moves, .string (sb m.sup), .string (sb m.type), .string (sb m.value), .int .i64 m.target, .int .i64 0, .string ⟨#[]⟩, .string ⟨#[]⟩] _ rfl rfl infoMsg _ (HZ3.out.range 0 _ rfl)) ?_)
      | fail)
    have HMM : MsgC M E s3 { m with code := 0, matched := [], text := [], name := [] } (vk) (va) (vw) (vl) (vm) := ⟨⟨H.out.ints.1, H.out.ints.2.1, H.out.ints.2.2.1, H.out.ints.2.2.2.1, H.out.ints.2.2.2.2.1, H.out.ints.2.2.2.2.2.1, H.out.ints.2.2.2.2.2.2.1, H.out.ints.2.2.2.2.2.2.2.1, i64z⟩, ⟨(Nat.zero_le _), H.out.texts.2.1, H.out.texts.2.2.1, H.out.texts.2.2.2.1, H.out.texts.2.2.2.2.1, H.out.texts.2.2.2.2.2.1, (Nat.zero_le _), (Nat.zero_le _)⟩, H.out.filter.no HW3.out, H.out.wants.no HW3.out, H.out.list.noA HW3.out, H.out.mods.noM HW3.out⟩
    have hcall := pemptyM_any M E { m with code := 0, matched := [], text := [], name := [] } (vk) (va) (vw) (vl) (vm) s3 HMM
    have hcells : mcs { m with code := 0, matched := [], text := [], name := [] } (vk) (va) (vw) (vl) (vm) = [.int .i64 m.id, .int .i64 120, .int .i64 m.ver, .string ⟨#[]⟩, .string (sb m.pw), .int .i64 m.scope, .int .i64 m.deref, .int .i64 m.size, .int .i64 m.time, .bool m.typesOnly, .int .i64 m.filter.kind, vk, .string (sb m.filter.type), .string (sb m.filter.value), .string (sb m.filter.first), va, .string (sb m.filter.last), vw, vl, vm, .string (sb m.rdn), .bool m.dropOld, .bool m.moves, .string (sb m.sup), .string (sb m.type), .string (sb m.value), .int .i64 m.target, .int .i64 0, .string ⟨#[]⟩, .string ⟨#[]⟩] := by unfold mcs; simp only [HOP.out]; try rfl
    rw [hcells] at hcall
    refine hcall.mono ?_
    rintro e w9 ⟨rfl, f9⟩
    rw [HEO.out]
    have HF9 := hid (HW3.out.trans' f9)
    clear f9 hcall hcells HMM
    go_wp2_with fail
    go_ret
    exact ⟨by cases EO <;> rfl, HF9.out⟩
end Go.Proofs.Ythjmkfpdbbfcpaa.ME
