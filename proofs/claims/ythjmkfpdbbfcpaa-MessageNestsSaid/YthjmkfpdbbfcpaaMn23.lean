/-
  Part 23 of the proof: MpI4, MpZ, BeY, BeZ.
-/
import Derived.Test.YthjmkfpdbbfcpaaMn12
import Derived.Test.YthjmkfpdbbfcpaaMn20
import Derived.Test.YthjmkfpdbbfcpaaMn21
import Derived.Test.YthjmkfpdbbfcpaaMn22
import Derived.Test.YthjmkfpdbbfcpaaMn19
import Derived.Test.YthjmkfpdbbfcpaaMn04
set_option linter.unusedSimpArgs false
set_option linter.unusedVariables false
namespace Go.Proofs.Ythjmkfpdbbfcpaa.ME
set_option maxRecDepth 100000
open Go.RowKit K Go.Proofs.Ythjmkfpdbbfcpaa.BE Go.Proofs.Ythjmkfpdbbfcpaa.FR

theorem right_108 (m : Msg) (hop : m.op = 108) : rightM m = (inI m.id 0 2147483647 && (m.moves || m.sup.isEmpty) && emptyM { m with name := [], rdn := [], dropOld := false, moves := false, sup := [] }) := by
  have hmods : m.mods.isEmpty = true → m.mods.all (fun x => inI x.doing 0 2) = true := fun h => by rw [List.isEmpty_iff.1 h]; rfl
  have h0 : emptyF fl0 = true := rfl
  have hn : ([] : B).isEmpty = true := rfl
  rw [Bool.eq_iff_iff]
  simp only [rightM, emptyM, searchOk, hop]
  cases hmv : m.moves <;> simp [namO, ansO, h0] <;> constructor <;> intro h <;> simp_all
set_option maxHeartbeats 16000000 in
theorem pright_108 (M : Nat) (E : Nat → Prop) (m : Msg) (vk va vw vl vm : Value) (w : World) (h : MsgC M E w m vk va vw vl vm) (hop : m.op = 108) : Calls Try.prog 20 #[.agg (mcs m vk va vw vl vm).toArray] w fun e w' => e = .returned (.bool (rightM m)) ∧ Fr No w w' := by
  rw [right_108 m hop]
  have H := hid h; have HOP := hid hop
  have e : mcs m vk va vw vl vm = [.int .i64 m.id, .int .i64 108, .int .i64 m.ver, .string (sb m.name), .string (sb m.pw), .int .i64 m.scope, .int .i64 m.deref, .int .i64 m.size, .int .i64 m.time, .bool m.typesOnly, .int .i64 m.filter.kind, vk, .string (sb m.filter.type), .string (sb m.filter.value), .string (sb m.filter.first), va, .string (sb m.filter.last), vw, vl, vm, .string (sb m.rdn), .bool m.dropOld, .bool m.moves, .string (sb m.sup), .string (sb m.type), .string (sb m.value), .int .i64 m.target, .int .i64 m.code, .string (sb m.matched), .string (sb m.text)] := by unfold mcs; rw [hop]
  rw [e]
  have HE := hid e
  clear e
  have g_sup := sbE m.sup
  clear h hop
  obtain ⟨b0, hb0⟩ : ∃ b, inI m.id 0 2147483647 = b := ⟨_, rfl⟩
  rw [hb0]
  have HB_0 := hid hb0
  clear hb0
  obtain ⟨b1, hb1⟩ : ∃ b, ((m.moves || m.sup.isEmpty)) = b := ⟨_, rfl⟩
  rw [hb1]
  have HB_1 := hid hb1
  generalize m.sup.isEmpty = sE at hb1 g_sup
  obtain ⟨SU, hSU⟩ : ∃ S, sb m.sup = S := ⟨_, rfl⟩
  rw [hSU] at g_sup ⊢
  rw [hSU] at HE
  obtain ⟨mv, hmv⟩ : ∃ b, m.moves = b := ⟨_, rfl⟩
  rw [hmv] at hb1
  rw [hmv] at HE ⊢
  clear HB_1 hSU
  obtain ⟨EO, hEO⟩ : ∃ b, emptyM { m with name := [], rdn := [], dropOld := false, moves := false, sup := [] } = b := ⟨_, rfl⟩
  rw [hEO]
  have HEO := hid hEO
  clear hEO
  go_enter Try.func20, Try.ntmps20
  go_wp2_with (first
    | ((with_reducible refine K.atO (.box 29 _) ?_); refine wpL_box rfl _ _ rfl _ rfl [.int .i64 m.id, .int .i64 108, .int .i64 m.ver, .string (sb m.name), .string (sb m.pw), .int .i64 m.scope, .int .i64 m.deref, .int .i64 m.size, .int .i64 m.time, .bool m.typesOnly, .int .i64 m.filter.kind, vk, .string (sb m.filter.type), .string (sb m.filter.value), .string (sb m.filter.first), va, .string (sb m.filter.last), vw, vl, vm, .string (sb m.rdn), .bool m.dropOld, .bool mv, .string SU, .string (sb m.type), .string (sb m.value), .int .i64 m.target, .int .i64 m.code, .string (sb m.matched), .string (sb m.text)] rfl ?_; intro w1 HB1 F1 HS1; have c0 : w1.cell? ⟨w.heap.size, 0, none⟩ = some (.int .i64 m.id) := HB1.out.cell 0; have c1 : w1.cell? ⟨w.heap.size, 1, none⟩ = some (.int .i64 108) := HB1.out.cell 1; have c22 : w1.cell? ⟨w.heap.size, 22, none⟩ = some (.bool mv) := HB1.out.cell 22; have c23 : w1.cell? ⟨w.heap.size, 23, none⟩ = some (.string SU) := HB1.out.cell 23)
    | fail)
  refine (pnumber_any m.id w1).mono ?_
  rintro e x0 ⟨rfl, hx0⟩
  have hy0 := hx0.symm
  subst hy0
  rw [HB_0.out]
  cases b0 with
  | false =>
    go_wp2_with (first
      | ((with_reducible refine K.atO (.store 9 _ _) ?_); (fail_if_success (have := HZ0)); refine wpL_setV rfl _ _ _ rfl w.heap.size 3 (.string ⟨#[]⟩) rfl rfl rfl rfl _ _ HB1.out (by simp) infoS ?_; intro s0 HY0 FY0 HSY0; have HZ0 := HY0; have HW0 := hid (F1.out.trans FY0.out fun k e => .inr (by have e : k = w.heap.size := e; omega)))
      | ((with_reducible refine K.atO (.store 9 _ _) ?_); (fail_if_success (have := HZ1)); (have := HZ0); refine wpL_setV rfl _ _ _ rfl w.heap.size 20 (.string ⟨#[]⟩) rfl rfl rfl rfl _ _ HZ0.out (by simp) infoS ?_; intro s1 HY1 FY1 HSY1; have HZ1 := HY1; have HW1 := hid (HW0.out.trans FY1.out fun k e => .inr (by have e : k = w.heap.size := e; omega)))
      | ((with_reducible refine K.atO (.store 4 _ _) ?_); (fail_if_success (have := HZ2)); (have := HZ1); refine wpL_setV rfl _ _ _ rfl w.heap.size 21 (.bool false) rfl rfl rfl rfl _ _ HZ1.out (by simp) infoI1 ?_; intro s2 HY2 FY2 HSY2; have HZ2 := HY2; have HW2 := hid (HW1.out.trans FY2.out fun k e => .inr (by have e : k = w.heap.size := e; omega)))
      | ((with_reducible refine K.atO (.store 4 _ _) ?_); (fail_if_success (have := HZ3)); (have := HZ2); refine wpL_setV rfl _ _ _ rfl w.heap.size 22 (.bool false) rfl rfl rfl rfl _ _ HZ2.out (by simp) infoI1 ?_; intro s3 HY3 FY3 HSY3; have HZ3 := HY3; have HW3 := hid (HW2.out.trans FY3.out fun k e => .inr (by have e : k = w.heap.size := e; omega)))
      | ((with_reducible refine K.atO (.store 9 _ _) ?_); (fail_if_success (have := HZ4)); (have := HZ3); refine wpL_setV rfl _ _ _ rfl w.heap.size 23 (.string ⟨#[]⟩) rfl rfl rfl rfl _ _ HZ3.out (by simp) infoS ?_; intro s4 HY4 FY4 HSY4; have HZ4 := HY4; have HW4 := hid (HW3.out.trans FY4.out fun k e => .inr (by have e : k = w.heap.size := e; omega)))
      | fail)
    go_ret
    exact ⟨by simp, HW4.out⟩
  | true =>
  cases mv with
  | true =>
    have hb2 : b1 = true := by rw [← hb1]; rfl
    subst hb2
    go_wp2_with (first
      | ((with_reducible refine K.atO (.store 9 _ _) ?_); (fail_if_success (have := HZ0)); refine wpL_setV rfl _ _ _ rfl w.heap.size 3 (.string ⟨#[]⟩) rfl rfl rfl rfl _ _ HB1.out (by simp) infoS ?_; intro s0 HY0 FY0 HSY0; have HZ0 := HY0; have HW0 := hid (F1.out.trans FY0.out fun k e => .inr (by have e : k = w.heap.size := e; omega)))
      | ((with_reducible refine K.atO (.store 9 _ _) ?_); (fail_if_success (have := HZ1)); (have := HZ0); refine wpL_setV rfl _ _ _ rfl w.heap.size 20 (.string ⟨#[]⟩) rfl rfl rfl rfl _ _ HZ0.out (by simp) infoS ?_; intro s1 HY1 FY1 HSY1; have HZ1 := HY1; have HW1 := hid (HW0.out.trans FY1.out fun k e => .inr (by have e : k = w.heap.size := e; omega)))
      | ((with_reducible refine K.atO (.store 4 _ _) ?_); (fail_if_success (have := HZ2)); (have := HZ1); refine wpL_setV rfl _ _ _ rfl w.heap.size 21 (.bool false) rfl rfl rfl rfl _ _ HZ1.out (by simp) infoI1 ?_; intro s2 HY2 FY2 HSY2; have HZ2 := HY2; have HW2 := hid (HW1.out.trans FY2.out fun k e => .inr (by have e : k = w.heap.size := e; omega)))
      | ((with_reducible refine K.atO (.store 4 _ _) ?_); (fail_if_success (have := HZ3)); (have := HZ2); refine wpL_setV rfl _ _ _ rfl w.heap.size 22 (.bool false) rfl rfl rfl rfl _ _ HZ2.out (by simp) infoI1 ?_; intro s3 HY3 FY3 HSY3; have HZ3 := HY3; have HW3 := hid (HW2.out.trans FY3.out fun k e => .inr (by have e : k = w.heap.size := e; omega)))
      | ((with_reducible refine K.atO (.store 9 _ _) ?_); (fail_if_success (have := HZ4)); (have := HZ3); refine wpL_setV rfl _ _ _ rfl w.heap.size 23 (.string ⟨#[]⟩) rfl rfl rfl rfl _ _ HZ3.out (by simp) infoS ?_; intro s4 HY4 FY4 HSY4; have HZ4 := HY4; have HW4 := hid (HW3.out.trans FY4.out fun k e => .inr (by have e : k = w.heap.size := e; omega)))
      | ((with_reducible refine K.atO (.load 29 _) ?_); refine wpL_valZ (by rfl) (.agg #[.int .i64 m.id, .int .i64 108, .int .i64 m.ver, .string ⟨#[]⟩, .string (sb m.pw), .int .i64 m.scope, .int .i64 m.deref, .int .i64 m.size, .int .i64 m.time, .bool m.typesOnly, .int .i64 m.filter.kind, vk, .string (sb m.filter.type), .string (sb m.filter.value), .string (sb m.filter.first), va, .string (sb m.filter.last), vw, vl, vm, .string ⟨#[]⟩, .bool false, .bool false, .string ⟨#[]⟩, .string (sb m.type), .string (sb m.value), .int .i64 m.target, .int .i64 m.code, .string (sb m.matched), .string (sb m.text)]) (exec_load _ _ rfl w.heap.size 0 rfl [.int .i64 m.id, .int .i64 108, .int .i64 m.ver, .string ⟨#[]⟩, .string (sb m.pw), .int .i64 m.scope, .int .i64 m.deref, .int .i64 m.size, .int .i64 m.time, .bool m.typesOnly, .int .i64 m.filter.kind, vk, .string (sb m.filter.type), .string (sb m.filter.value), .string (sb m.filter.first), va, .string (sb m.filter.last), vw, vl, vm, .string ⟨#[]⟩, .bool false, .bool false, .string ⟨#[]⟩, .string (sb m.type), .string (sb m.value), .int .i64 m.target, .int .i64 m.code, .string (sb m.matched), .string (sb m.text)] _ rfl rfl infoMsg _ (HZ4.out.range 0 _ rfl)) ?_)
      | fail)
    have HMM : MsgC M E s4 { m with name := [], rdn := [], dropOld := false, moves := false, sup := [] } (vk) (va) (vw) (vl) (vm) := ⟨⟨H.out.ints.1, H.out.ints.2.1, H.out.ints.2.2.1, H.out.ints.2.2.2.1, H.out.ints.2.2.2.2.1, H.out.ints.2.2.2.2.2.1, H.out.ints.2.2.2.2.2.2.1, H.out.ints.2.2.2.2.2.2.2.1, H.out.ints.2.2.2.2.2.2.2.2⟩, ⟨(Nat.zero_le _), H.out.texts.2.1, (Nat.zero_le _), (Nat.zero_le _), H.out.texts.2.2.2.2.1, H.out.texts.2.2.2.2.2.1, H.out.texts.2.2.2.2.2.2.1, H.out.texts.2.2.2.2.2.2.2⟩, H.out.filter.no HW4.out, H.out.wants.no HW4.out, H.out.list.noA HW4.out, H.out.mods.noM HW4.out⟩
    have hcall := pemptyM_any M E { m with name := [], rdn := [], dropOld := false, moves := false, sup := [] } (vk) (va) (vw) (vl) (vm) s4 HMM
    have hcells : mcs { m with name := [], rdn := [], dropOld := false, moves := false, sup := [] } (vk) (va) (vw) (vl) (vm) = [.int .i64 m.id, .int .i64 108, .int .i64 m.ver, .string ⟨#[]⟩, .string (sb m.pw), .int .i64 m.scope, .int .i64 m.deref, .int .i64 m.size, .int .i64 m.time, .bool m.typesOnly, .int .i64 m.filter.kind, vk, .string (sb m.filter.type), .string (sb m.filter.value), .string (sb m.filter.first), va, .string (sb m.filter.last), vw, vl, vm, .string ⟨#[]⟩, .bool false, .bool false, .string ⟨#[]⟩, .string (sb m.type), .string (sb m.value), .int .i64 m.target, .int .i64 m.code, .string (sb m.matched), .string (sb m.text)] := by unfold mcs; simp only [HOP.out]; try rfl
    rw [hcells] at hcall
    refine hcall.mono ?_
    rintro e w9 ⟨rfl, f9⟩
    rw [HEO.out]
    have HF9 := hid (HW4.out.trans' f9)
    clear f9 hcall hcells HMM
    go_wp2_with fail
    go_ret
    exact ⟨by cases EO <;> rfl, HF9.out⟩
  | false =>
  cases sE with
  | true =>
    have hb2 : b1 = true := by rw [← hb1]; rfl
    subst hb2
    go_wp2_with (first
      | ((with_reducible refine K.atO (.store 9 _ _) ?_); (fail_if_success (have := HZ0)); refine wpL_setV rfl _ _ _ rfl w.heap.size 3 (.string ⟨#[]⟩) rfl rfl rfl rfl _ _ HB1.out (by simp) infoS ?_; intro s0 HY0 FY0 HSY0; have HZ0 := HY0; have HW0 := hid (F1.out.trans FY0.out fun k e => .inr (by have e : k = w.heap.size := e; omega)))
      | ((with_reducible refine K.atO (.store 9 _ _) ?_); (fail_if_success (have := HZ1)); (have := HZ0); refine wpL_setV rfl _ _ _ rfl w.heap.size 20 (.string ⟨#[]⟩) rfl rfl rfl rfl _ _ HZ0.out (by simp) infoS ?_; intro s1 HY1 FY1 HSY1; have HZ1 := HY1; have HW1 := hid (HW0.out.trans FY1.out fun k e => .inr (by have e : k = w.heap.size := e; omega)))
      | ((with_reducible refine K.atO (.store 4 _ _) ?_); (fail_if_success (have := HZ2)); (have := HZ1); refine wpL_setV rfl _ _ _ rfl w.heap.size 21 (.bool false) rfl rfl rfl rfl _ _ HZ1.out (by simp) infoI1 ?_; intro s2 HY2 FY2 HSY2; have HZ2 := HY2; have HW2 := hid (HW1.out.trans FY2.out fun k e => .inr (by have e : k = w.heap.size := e; omega)))
      | ((with_reducible refine K.atO (.store 4 _ _) ?_); (fail_if_success (have := HZ3)); (have := HZ2); refine wpL_setV rfl _ _ _ rfl w.heap.size 22 (.bool false) rfl rfl rfl rfl _ _ HZ2.out (by simp) infoI1 ?_; intro s3 HY3 FY3 HSY3; have HZ3 := HY3; have HW3 := hid (HW2.out.trans FY3.out fun k e => .inr (by have e : k = w.heap.size := e; omega)))
      | ((with_reducible refine K.atO (.store 9 _ _) ?_); (fail_if_success (have := HZ4)); (have := HZ3); refine wpL_setV rfl _ _ _ rfl w.heap.size 23 (.string ⟨#[]⟩) rfl rfl rfl rfl _ _ HZ3.out (by simp) infoS ?_; intro s4 HY4 FY4 HSY4; have HZ4 := HY4; have HW4 := hid (HW3.out.trans FY4.out fun k e => .inr (by have e : k = w.heap.size := e; omega)))
      | ((with_reducible refine K.atO (.load 29 _) ?_); refine wpL_valZ (by rfl) (.agg #[.int .i64 m.id, .int .i64 108, .int .i64 m.ver, .string ⟨#[]⟩, .string (sb m.pw), .int .i64 m.scope, .int .i64 m.deref, .int .i64 m.size, .int .i64 m.time, .bool m.typesOnly, .int .i64 m.filter.kind, vk, .string (sb m.filter.type), .string (sb m.filter.value), .string (sb m.filter.first), va, .string (sb m.filter.last), vw, vl, vm, .string ⟨#[]⟩, .bool false, .bool false, .string ⟨#[]⟩, .string (sb m.type), .string (sb m.value), .int .i64 m.target, .int .i64 m.code, .string (sb m.matched), .string (sb m.text)]) (exec_load _ _ rfl w.heap.size 0 rfl [.int .i64 m.id, .int .i64 108, .int .i64 m.ver, .string ⟨#[]⟩, .string (sb m.pw), .int .i64 m.scope, .int .i64 m.deref, .int .i64 m.size, .int .i64 m.time, .bool m.typesOnly, .int .i64 m.filter.kind, vk, .string (sb m.filter.type), .string (sb m.filter.value), .string (sb m.filter.first), va, .string (sb m.filter.last), vw, vl, vm, .string ⟨#[]⟩, .bool false, .bool false, .string ⟨#[]⟩, .string (sb m.type), .string (sb m.value), .int .i64 m.target, .int .i64 m.code, .string (sb m.matched), .string (sb m.text)] _ rfl rfl infoMsg _ (HZ4.out.range 0 _ rfl)) ?_)
      | fail)
    have HMM : MsgC M E s4 { m with name := [], rdn := [], dropOld := false, moves := false, sup := [] } (vk) (va) (vw) (vl) (vm) := ⟨⟨H.out.ints.1, H.out.ints.2.1, H.out.ints.2.2.1, H.out.ints.2.2.2.1, H.out.ints.2.2.2.2.1, H.out.ints.2.2.2.2.2.1, H.out.ints.2.2.2.2.2.2.1, H.out.ints.2.2.2.2.2.2.2.1, H.out.ints.2.2.2.2.2.2.2.2⟩, ⟨(Nat.zero_le _), H.out.texts.2.1, (Nat.zero_le _), (Nat.zero_le _), H.out.texts.2.2.2.2.1, H.out.texts.2.2.2.2.2.1, H.out.texts.2.2.2.2.2.2.1, H.out.texts.2.2.2.2.2.2.2⟩, H.out.filter.no HW4.out, H.out.wants.no HW4.out, H.out.list.noA HW4.out, H.out.mods.noM HW4.out⟩
    have hcall := pemptyM_any M E { m with name := [], rdn := [], dropOld := false, moves := false, sup := [] } (vk) (va) (vw) (vl) (vm) s4 HMM
    have hcells : mcs { m with name := [], rdn := [], dropOld := false, moves := false, sup := [] } (vk) (va) (vw) (vl) (vm) = [.int .i64 m.id, .int .i64 108, .int .i64 m.ver, .string ⟨#[]⟩, .string (sb m.pw), .int .i64 m.scope, .int .i64 m.deref, .int .i64 m.size, .int .i64 m.time, .bool m.typesOnly, .int .i64 m.filter.kind, vk, .string (sb m.filter.type), .string (sb m.filter.value), .string (sb m.filter.first), va, .string (sb m.filter.last), vw, vl, vm, .string ⟨#[]⟩, .bool false, .bool false, .string ⟨#[]⟩, .string (sb m.type), .string (sb m.value), .int .i64 m.target, .int .i64 m.code, .string (sb m.matched), .string (sb m.text)] := by unfold mcs; simp only [HOP.out]; try rfl
    rw [hcells] at hcall
    refine hcall.mono ?_
    rintro e w9 ⟨rfl, f9⟩
    rw [HEO.out]
    have HF9 := hid (HW4.out.trans' f9)
    clear f9 hcall hcells HMM
    go_wp2_with fail
    go_ret
    exact ⟨by cases EO <;> rfl, HF9.out⟩
  | false =>
    have hb2 : b1 = false := by rw [← hb1]; rfl
    subst hb2
    go_wp2_with (first
      | ((with_reducible refine K.atO (.store 9 _ _) ?_); (fail_if_success (have := HZ0)); refine wpL_setV rfl _ _ _ rfl w.heap.size 3 (.string ⟨#[]⟩) rfl rfl rfl rfl _ _ HB1.out (by simp) infoS ?_; intro s0 HY0 FY0 HSY0; have HZ0 := HY0; have HW0 := hid (F1.out.trans FY0.out fun k e => .inr (by have e : k = w.heap.size := e; omega)))
      | ((with_reducible refine K.atO (.store 9 _ _) ?_); (fail_if_success (have := HZ1)); (have := HZ0); refine wpL_setV rfl _ _ _ rfl w.heap.size 20 (.string ⟨#[]⟩) rfl rfl rfl rfl _ _ HZ0.out (by simp) infoS ?_; intro s1 HY1 FY1 HSY1; have HZ1 := HY1; have HW1 := hid (HW0.out.trans FY1.out fun k e => .inr (by have e : k = w.heap.size := e; omega)))
      | ((with_reducible refine K.atO (.store 4 _ _) ?_); (fail_if_success (have := HZ2)); (have := HZ1); refine wpL_setV rfl _ _ _ rfl w.heap.size 21 (.bool false) rfl rfl rfl rfl _ _ HZ1.out (by simp) infoI1 ?_; intro s2 HY2 FY2 HSY2; have HZ2 := HY2; have HW2 := hid (HW1.out.trans FY2.out fun k e => .inr (by have e : k = w.heap.size := e; omega)))
      | ((with_reducible refine K.atO (.store 4 _ _) ?_); (fail_if_success (have := HZ3)); (have := HZ2); refine wpL_setV rfl _ _ _ rfl w.heap.size 22 (.bool false) rfl rfl rfl rfl _ _ HZ2.out (by simp) infoI1 ?_; intro s3 HY3 FY3 HSY3; have HZ3 := HY3; have HW3 := hid (HW2.out.trans FY3.out fun k e => .inr (by have e : k = w.heap.size := e; omega)))
      | ((with_reducible refine K.atO (.store 9 _ _) ?_); (fail_if_success (have := HZ4)); (have := HZ3); refine wpL_setV rfl _ _ _ rfl w.heap.size 23 (.string ⟨#[]⟩) rfl rfl rfl rfl _ _ HZ3.out (by simp) infoS ?_; intro s4 HY4 FY4 HSY4; have HZ4 := HY4; have HW4 := hid (HW3.out.trans FY4.out fun k e => .inr (by have e : k = w.heap.size := e; omega)))
      | fail)
    go_ret
    exact ⟨by simp, HW4.out⟩
end Go.Proofs.Ythjmkfpdbbfcpaa.ME

namespace Go.Proofs.Ythjmkfpdbbfcpaa.ME
set_option maxRecDepth 100000
open Go.RowKit K Go.Proofs.Ythjmkfpdbbfcpaa.BE Go.Proofs.Ythjmkfpdbbfcpaa.FR

set_option maxHeartbeats 8000000 in
theorem pright_none (M : Nat) (E : Nat → Prop) (m : Msg) (vk va vw vl vm : Value) (w : World) (h : MsgC M E w m vk va vw vl vm) (hx : ¬ m.op = 66 ∧ ¬ m.op = 96 ∧ ¬ m.op = 99 ∧ ¬ m.op = 102 ∧ ¬ m.op = 104 ∧ ¬ m.op = 100 ∧ ¬ m.op = 74 ∧ ¬ m.op = 108 ∧ ¬ m.op = 110 ∧ ¬ m.op = 80 ∧ ¬ m.op = 120 ∧ ¬ m.op = 97 ∧ ¬ m.op = 101 ∧ ¬ m.op = 103 ∧ ¬ m.op = 105 ∧ ¬ m.op = 107 ∧ ¬ m.op = 109 ∧ ¬ m.op = 111) : Calls Try.prog 20 #[.agg (mcs m vk va vw vl vm).toArray] w fun e w' => e = .returned (.bool (rightM m)) ∧ Fr No w w' := by
  have hR : rightM m = false := by
    have h1 : namO m.op = false := by
      obtain ⟨h66, h96, h99, h102, h104, h100, h74, h108, h110, h80, h120, h97, h101, h103, h105, h107, h109, h111⟩ := hx
      simp [namO, ansO, *]
    simp [rightM, h1]
  rw [hR]
  have e : mcs m vk va vw vl vm = [.int .i64 m.id, .int .i64 m.op, .int .i64 m.ver, .string (sb m.name), .string (sb m.pw), .int .i64 m.scope, .int .i64 m.deref, .int .i64 m.size, .int .i64 m.time, .bool m.typesOnly, .int .i64 m.filter.kind, vk, .string (sb m.filter.type), .string (sb m.filter.value), .string (sb m.filter.first), va, .string (sb m.filter.last), vw, vl, vm, .string (sb m.rdn), .bool m.dropOld, .bool m.moves, .string (sb m.sup), .string (sb m.type), .string (sb m.value), .int .i64 m.target, .int .i64 m.code, .string (sb m.matched), .string (sb m.text)] := rfl
  rw [e]
  have g66 := nb _ _ hx.1
  have g96 := nb _ _ hx.2.1
  have g99 := nb _ _ hx.2.2.1
  have g102 := nb _ _ hx.2.2.2.1
  have g104 := nb _ _ hx.2.2.2.2.1
  have g100 := nb _ _ hx.2.2.2.2.2.1
  have g74 := nb _ _ hx.2.2.2.2.2.2.1
  have g108 := nb _ _ hx.2.2.2.2.2.2.2.1
  have g110 := nb _ _ hx.2.2.2.2.2.2.2.2.1
  have g80 := nb _ _ hx.2.2.2.2.2.2.2.2.2.1
  have g120 := nb _ _ hx.2.2.2.2.2.2.2.2.2.2.1
  have g97 := nb _ _ hx.2.2.2.2.2.2.2.2.2.2.2.1
  have g101 := nb _ _ hx.2.2.2.2.2.2.2.2.2.2.2.2.1
  have g103 := nb _ _ hx.2.2.2.2.2.2.2.2.2.2.2.2.2.1
  have g105 := nb _ _ hx.2.2.2.2.2.2.2.2.2.2.2.2.2.2.1
  have g107 := nb _ _ hx.2.2.2.2.2.2.2.2.2.2.2.2.2.2.2.1
  have g109 := nb _ _ hx.2.2.2.2.2.2.2.2.2.2.2.2.2.2.2.2.1
  have g111 := nb _ _ hx.2.2.2.2.2.2.2.2.2.2.2.2.2.2.2.2.2
  obtain ⟨b0, hb0⟩ : ∃ b, inI m.id 0 2147483647 = b := ⟨_, rfl⟩
  have HB_0 := hid hb0
  clear hx h hR e hb0
  go_enter Try.func20, Try.ntmps20
  go_wp2_with (first
    | ((with_reducible refine K.atO (.box 29 _) ?_); refine wpL_box rfl _ _ rfl _ rfl [.int .i64 m.id, .int .i64 m.op, .int .i64 m.ver, .string (sb m.name), .string (sb m.pw), .int .i64 m.scope, .int .i64 m.deref, .int .i64 m.size, .int .i64 m.time, .bool m.typesOnly, .int .i64 m.filter.kind, vk, .string (sb m.filter.type), .string (sb m.filter.value), .string (sb m.filter.first), va, .string (sb m.filter.last), vw, vl, vm, .string (sb m.rdn), .bool m.dropOld, .bool m.moves, .string (sb m.sup), .string (sb m.type), .string (sb m.value), .int .i64 m.target, .int .i64 m.code, .string (sb m.matched), .string (sb m.text)] rfl ?_; intro w1 HB1 F1 HS1; have c0 : w1.cell? ⟨w.heap.size, 0, none⟩ = some (.int .i64 m.id) := HB1.out.cell 0; have c1 : w1.cell? ⟨w.heap.size, 1, none⟩ = some (.int .i64 m.op) := HB1.out.cell 1)
    | fail)
  refine (pnumber_any m.id w1).mono ?_
  rintro e x0 ⟨rfl, hx0⟩
  have hy0 := hx0.symm
  subst hy0
  rw [HB_0.out]
  go_wp2_with fail
  go_ret
  exact ⟨rfl, F1.out⟩
theorem pisRight_any (M : Nat) (E : Nat → Prop) (m : Msg) (vk va vw vl vm : Value) (w : World) (h : MsgC M E w m vk va vw vl vm) : Calls Try.prog 20 #[.agg (mcs m vk va vw vl vm).toArray] w fun e w' => e = .returned (.bool (rightM m)) ∧ Fr No w w' := by
  by_cases h66 : m.op = 66
  · exact pright_66 M E m vk va vw vl vm w h h66
  by_cases h96 : m.op = 96
  · exact pright_96 M E m vk va vw vl vm w h h96
  by_cases h99 : m.op = 99
  · exact pright_99 M E m vk va vw vl vm w h h99
  by_cases h102 : m.op = 102
  · exact pright_102 M E m vk va vw vl vm w h h102
  by_cases h104 : m.op = 104
  · exact pright_104 M E m vk va vw vl vm w h h104
  by_cases h100 : m.op = 100
  · exact pright_100 M E m vk va vw vl vm w h h100
  by_cases h74 : m.op = 74
  · exact pright_74 M E m vk va vw vl vm w h h74
  by_cases h108 : m.op = 108
  · exact pright_108 M E m vk va vw vl vm w h h108
  by_cases h110 : m.op = 110
  · exact pright_110 M E m vk va vw vl vm w h h110
  by_cases h80 : m.op = 80
  · exact pright_80 M E m vk va vw vl vm w h h80
  by_cases h120 : m.op = 120
  · exact pright_120 M E m vk va vw vl vm w h h120
  by_cases h97 : m.op = 97
  · exact pright_97 M E m vk va vw vl vm w h h97
  by_cases h101 : m.op = 101
  · exact pright_101 M E m vk va vw vl vm w h h101
  by_cases h103 : m.op = 103
  · exact pright_103 M E m vk va vw vl vm w h h103
  by_cases h105 : m.op = 105
  · exact pright_105 M E m vk va vw vl vm w h h105
  by_cases h107 : m.op = 107
  · exact pright_107 M E m vk va vw vl vm w h h107
  by_cases h109 : m.op = 109
  · exact pright_109 M E m vk va vw vl vm w h h109
  by_cases h111 : m.op = 111
  · exact pright_111 M E m vk va vw vl vm w h h111
  exact pright_none M E m vk va vw vl vm w h ⟨h66, h96, h99, h102, h104, h100, h74, h108, h110, h80, h120, h97, h101, h103, h105, h107, h109, h111⟩
theorem pRight_any (M : Nat) (E : Nat → Prop) (m : Msg) (vk va vw vl vm : Value) (w : World) (h : MsgC M E w m vk va vw vl vm) : Calls Try.prog 11 #[.agg (mcs m vk va vw vl vm).toArray] w fun e w' => e = .returned (.bool (rightM m)) ∧ Fr No w w' := by
  have HC : Hid (∀ w', Fr No w w' → Calls Try.prog 20 #[.agg (mcs m vk va vw vl vm).toArray] w' fun e w'' => e = .returned (.bool (rightM m)) ∧ Fr No w' w'') := hid (fun w' hf => pisRight_any M E m vk va vw vl vm w' (h.no hf))
  obtain ⟨R, hR⟩ : ∃ b, rightM m = b := ⟨_, rfl⟩
  rw [hR] at HC ⊢
  have e : mcs m vk va vw vl vm = [.int .i64 m.id, .int .i64 m.op, .int .i64 m.ver, .string (sb m.name), .string (sb m.pw), .int .i64 m.scope, .int .i64 m.deref, .int .i64 m.size, .int .i64 m.time, .bool m.typesOnly, .int .i64 m.filter.kind, vk, .string (sb m.filter.type), .string (sb m.filter.value), .string (sb m.filter.first), va, .string (sb m.filter.last), vw, vl, vm, .string (sb m.rdn), .bool m.dropOld, .bool m.moves, .string (sb m.sup), .string (sb m.type), .string (sb m.value), .int .i64 m.target, .int .i64 m.code, .string (sb m.matched), .string (sb m.text)] := rfl
  rw [e] at HC ⊢
  clear h hR e
  go_enter Try.func11, Try.ntmps11
  go_wp2_with (first
    | ((with_reducible refine K.atO (.box 29 _) ?_); refine wpL_box rfl _ _ rfl _ rfl [.int .i64 m.id, .int .i64 m.op, .int .i64 m.ver, .string (sb m.name), .string (sb m.pw), .int .i64 m.scope, .int .i64 m.deref, .int .i64 m.size, .int .i64 m.time, .bool m.typesOnly, .int .i64 m.filter.kind, vk, .string (sb m.filter.type), .string (sb m.filter.value), .string (sb m.filter.first), va, .string (sb m.filter.last), vw, vl, vm, .string (sb m.rdn), .bool m.dropOld, .bool m.moves, .string (sb m.sup), .string (sb m.type), .string (sb m.value), .int .i64 m.target, .int .i64 m.code, .string (sb m.matched), .string (sb m.text)] rfl ?_; intro w1 HB1 F1 HS1)
    | ((with_reducible refine K.atO (.load 29 _) ?_); refine wpL_load rfl _ _ rfl w.heap.size 0 rfl [.int .i64 m.id, .int .i64 m.op, .int .i64 m.ver, .string (sb m.name), .string (sb m.pw), .int .i64 m.scope, .int .i64 m.deref, .int .i64 m.size, .int .i64 m.time, .bool m.typesOnly, .int .i64 m.filter.kind, vk, .string (sb m.filter.type), .string (sb m.filter.value), .string (sb m.filter.first), va, .string (sb m.filter.last), vw, vl, vm, .string (sb m.rdn), .bool m.dropOld, .bool m.moves, .string (sb m.sup), .string (sb m.type), .string (sb m.value), .int .i64 m.target, .int .i64 m.code, .string (sb m.matched), .string (sb m.text)] _ (HB1.out.range 0 _ rfl) rfl rfl infoMsg ?_)
    | fail)
  refine (HC.out w1 F1.out).mono ?_
  rintro e w2 ⟨rfl, f2⟩
  have HF2 := hid (F1.out.trans' f2)
  clear f2
  go_wp2_with fail
  go_ret
  exact ⟨rfl, HF2.out⟩
set_option maxHeartbeats 8000000 in
theorem pencode_any (M : Nat) (E : Nat → Prop) (m : Msg) (vk va vw vl vm : Value) (w : World) (h : MsgC M E w m vk va vw vl vm) (hb : WB m) : Calls Try.prog 8 #[.agg (mcs m vk va vw vl vm).toArray] w fun e w' => e = .returned (.tuple #[.string (sb (encM m).1), .int .i64 ((encM m).2 : Int)]) ∧ Fr No w w' := by
  have HC : Hid (∀ w', Fr No w w' → Calls Try.prog 11 #[.agg (mcs m vk va vw vl vm).toArray] w' fun e w'' => e = .returned (.bool (rightM m)) ∧ Fr No w' w'') := hid (fun w' hf => pRight_any M E m vk va vw vl vm w' (h.no hf))
  cases hR : rightM m with
  | false =>
    have e0 : encM m = ([], 110) := by unfold encM; rw [hR]; rfl
    rw [e0]
    show Calls Try.prog 8 #[.agg (mcs m vk va vw vl vm).toArray] w fun e w' => e = .returned (.tuple #[.string ⟨#[]⟩, .int .i64 110]) ∧ Fr No w w'
    rw [hR] at HC
    have e : mcs m vk va vw vl vm = [.int .i64 m.id, .int .i64 m.op, .int .i64 m.ver, .string (sb m.name), .string (sb m.pw), .int .i64 m.scope, .int .i64 m.deref, .int .i64 m.size, .int .i64 m.time, .bool m.typesOnly, .int .i64 m.filter.kind, vk, .string (sb m.filter.type), .string (sb m.filter.value), .string (sb m.filter.first), va, .string (sb m.filter.last), vw, vl, vm, .string (sb m.rdn), .bool m.dropOld, .bool m.moves, .string (sb m.sup), .string (sb m.type), .string (sb m.value), .int .i64 m.target, .int .i64 m.code, .string (sb m.matched), .string (sb m.text)] := rfl
    rw [e] at HC ⊢
    clear h hR e e0 hb
    go_enter Try.func8, Try.ntmps8
    go_wp2_with (first
      | ((with_reducible refine K.atO (.box 29 _) ?_); refine wpL_box rfl _ _ rfl _ rfl [.int .i64 m.id, .int .i64 m.op, .int .i64 m.ver, .string (sb m.name), .string (sb m.pw), .int .i64 m.scope, .int .i64 m.deref, .int .i64 m.size, .int .i64 m.time, .bool m.typesOnly, .int .i64 m.filter.kind, vk, .string (sb m.filter.type), .string (sb m.filter.value), .string (sb m.filter.first), va, .string (sb m.filter.last), vw, vl, vm, .string (sb m.rdn), .bool m.dropOld, .bool m.moves, .string (sb m.sup), .string (sb m.type), .string (sb m.value), .int .i64 m.target, .int .i64 m.code, .string (sb m.matched), .string (sb m.text)] rfl ?_; intro w1 HB1 F1 HS1)
      | ((with_reducible refine K.atO (.load 29 _) ?_); refine wpL_load rfl _ _ rfl w.heap.size 0 rfl [.int .i64 m.id, .int .i64 m.op, .int .i64 m.ver, .string (sb m.name), .string (sb m.pw), .int .i64 m.scope, .int .i64 m.deref, .int .i64 m.size, .int .i64 m.time, .bool m.typesOnly, .int .i64 m.filter.kind, vk, .string (sb m.filter.type), .string (sb m.filter.value), .string (sb m.filter.first), va, .string (sb m.filter.last), vw, vl, vm, .string (sb m.rdn), .bool m.dropOld, .bool m.moves, .string (sb m.sup), .string (sb m.type), .string (sb m.value), .int .i64 m.target, .int .i64 m.code, .string (sb m.matched), .string (sb m.text)] _ (HB1.out.range 0 _ rfl) rfl rfl infoMsg ?_)
      | fail)
    refine (HC.out w1 F1.out).mono ?_
    rintro e w2 ⟨rfl, f2⟩
    have HF2 := hid (F1.out.trans' f2)
    clear f2
    go_wp2_with fail
    go_ret2
    exact ⟨rfl, HF2.out⟩
  | true =>
    have e0 : encM m = (encS (pieceM m), errN (pieceM m)) := by unfold encM; rw [hR]; rfl
    rw [e0]
    have HW : Hid (∀ w', Fr No w w' → Calls Try.prog 13 #[.agg (mcs m vk va vw vl vm).toArray] w' (Makes 10 (pieceM m) w')) := hid (fun w' hf => written_any M E m vk va vw vl vm w' (h.no hf) hR hb)
    rw [hR] at HC
    have e : mcs m vk va vw vl vm = [.int .i64 m.id, .int .i64 m.op, .int .i64 m.ver, .string (sb m.name), .string (sb m.pw), .int .i64 m.scope, .int .i64 m.deref, .int .i64 m.size, .int .i64 m.time, .bool m.typesOnly, .int .i64 m.filter.kind, vk, .string (sb m.filter.type), .string (sb m.filter.value), .string (sb m.filter.first), va, .string (sb m.filter.last), vw, vl, vm, .string (sb m.rdn), .bool m.dropOld, .bool m.moves, .string (sb m.sup), .string (sb m.type), .string (sb m.value), .int .i64 m.target, .int .i64 m.code, .string (sb m.matched), .string (sb m.text)] := rfl
    rw [e] at HC HW ⊢
    clear h hR e e0 hb
    go_enter Try.func8, Try.ntmps8
    go_wp2_with (first
      | ((with_reducible refine K.atO (.box 29 _) ?_); refine wpL_box rfl _ _ rfl _ rfl [.int .i64 m.id, .int .i64 m.op, .int .i64 m.ver, .string (sb m.name), .string (sb m.pw), .int .i64 m.scope, .int .i64 m.deref, .int .i64 m.size, .int .i64 m.time, .bool m.typesOnly, .int .i64 m.filter.kind, vk, .string (sb m.filter.type), .string (sb m.filter.value), .string (sb m.filter.first), va, .string (sb m.filter.last), vw, vl, vm, .string (sb m.rdn), .bool m.dropOld, .bool m.moves, .string (sb m.sup), .string (sb m.type), .string (sb m.value), .int .i64 m.target, .int .i64 m.code, .string (sb m.matched), .string (sb m.text)] rfl ?_; intro w1 HB1 F1 HS1)
      | ((with_reducible refine K.atO (.load 29 _) ?_); refine wpL_load rfl _ _ rfl w.heap.size 0 rfl [.int .i64 m.id, .int .i64 m.op, .int .i64 m.ver, .string (sb m.name), .string (sb m.pw), .int .i64 m.scope, .int .i64 m.deref, .int .i64 m.size, .int .i64 m.time, .bool m.typesOnly, .int .i64 m.filter.kind, vk, .string (sb m.filter.type), .string (sb m.filter.value), .string (sb m.filter.first), va, .string (sb m.filter.last), vw, vl, vm, .string (sb m.rdn), .bool m.dropOld, .bool m.moves, .string (sb m.sup), .string (sb m.type), .string (sb m.value), .int .i64 m.target, .int .i64 m.code, .string (sb m.matched), .string (sb m.text)] _ (HB1.out.range 0 _ rfl) rfl rfl infoMsg ?_)
      | fail)
    refine (HC.out w1 F1.out).mono ?_
    rintro e w2 ⟨rfl, f2⟩
    have HB2 := hid (HB1.out.fr f2 id)
    have HF2 := hid (F1.out.trans' f2)
    clear f2
    go_wp2_with (first
      | ((with_reducible refine K.atO (.load 29 _) ?_); refine wpL_load rfl _ _ rfl w.heap.size 0 rfl [.int .i64 m.id, .int .i64 m.op, .int .i64 m.ver, .string (sb m.name), .string (sb m.pw), .int .i64 m.scope, .int .i64 m.deref, .int .i64 m.size, .int .i64 m.time, .bool m.typesOnly, .int .i64 m.filter.kind, vk, .string (sb m.filter.type), .string (sb m.filter.value), .string (sb m.filter.first), va, .string (sb m.filter.last), vw, vl, vm, .string (sb m.rdn), .bool m.dropOld, .bool m.moves, .string (sb m.sup), .string (sb m.type), .string (sb m.value), .int .i64 m.target, .int .i64 m.code, .string (sb m.matched), .string (sb m.text)] _ (HB2.out.range 0 _ rfl) rfl rfl infoMsg ?_)
      | fail)
    refine (HW.out w2 HF2.out).mono ?_
    rintro e w3 ⟨cs, rfl, hnd, f3⟩
    have HN := hid (NdAt.mono (fun k hk _ => hk) hnd : NdAt 10 (Lo w3.heap.size) w3 (pieceM m) cs)
    have HF3 := hid (HF2.out.trans' f3)
    clear hnd f3
    go_wp2_with fail
    refine (BE.encode_any 10 w3.heap.size (pieceM m) cs w3 HN.out (Nat.le_refl _)).mono ?_
    rintro e w4 ⟨rfl, f4⟩
    have HF4 := hid (HF3.out.trans' f4)
    clear f4
    obtain ⟨s, hs⟩ : ∃ s, encS (pieceM m) = s := ⟨_, rfl⟩
    obtain ⟨k, hk⟩ : ∃ s, errN (pieceM m) = s := ⟨_, rfl⟩
    rw [hs, hk]
    have HS := hid hs; have HK := hid hk
    clear hs hk
    go_wp2_with fail
    go_ret2
    exact ⟨by (try simp only [HS.out, HK.out]); rfl, HF4.out⟩
end Go.Proofs.Ythjmkfpdbbfcpaa.ME

namespace Go.Proofs.Ythjmkfpdbbfcpaa.BE
set_option maxRecDepth 100000
open Go.RowKit K

/-- What readChildren leaves. -/
def Kids (m bn : Nat) (t : Int) (c : B) (w : World) (e : Ending) (w' : World) : Prop := Fr (fun k => k = bn) w w' ∧ match kidsG (rd m) c.length c with
  | .error k => e = .panicked [fl (if k = 92 then 90 else k)]
  | .ok ks => e = .returned (.tuple #[]) ∧ ∃ v L base, w.heap.size ≤ base ∧ KS m base bn t ks v L w'
theorem kids_ne {m : Nat} {c : B} {k : Nat} (h : kidsG (rd m) c.length c = .error k) : k ≠ 0 :=
  kids_err (rd_err m) (fun s n u hr => ⟨(rd_inv m s n u hr).2.2.2.2.1, (rd_inv m s n u hr).2.2.2.2.2⟩) _ _ _ (Nat.le_refl _) h
set_option maxHeartbeats 4000000 in
theorem readKids_any (m bn : Nat) (t : Int) (c : B) (w : World) (ih : ReadOk m) (hB : Blk w bn 44 [.int .i64 t, .string ⟨#[]⟩, .slice none 0 0]) (hc : c.length ≤ 4000) :
    Calls Try.prog 52 #[.string (sb c), .int .i64 ((9 - m : Nat) : Int), vis bn] w (Kids m bn t c w) := by
  have hbl := hB.lt
  have HIH := hid ih; have HB := hid hB; have HC := hid hc; have HBL := hid hbl
  obtain ⟨dd, hdd⟩ : ∃ dd : Int, ((9 - m : Nat) : Int) = dd := ⟨_, rfl⟩
  have HDD := hid hdd
  obtain ⟨cs, hcs⟩ : ∃ cs, sb c = cs := ⟨_, rfl⟩
  have HCS := hid hcs
  rw [hdd, hcs]
  clear ih hB hc hbl hdd hcs
  have hmf : ∀ (fn : Fn) (first cap : Array Value) (w : World), (Instr.makeFunc fn first cap).run Try.prog w = .ok (.func fn first cap) w := fun _ _ _ _ => rfl
  go_enter Try.func52, Try.ntmps52
  go_wp2_with (first
    | ((with_reducible refine K.atO (.box 9 _) ?_); refine wpL_box rfl _ _ rfl _ rfl [.string cs] rfl ?_; intro w1 HB1 F1 HS1)
    | ((with_reducible refine K.atO (.box 3 _) ?_); refine wpL_box rfl _ _ rfl _ rfl [.int .i64 dd] rfl ?_; intro w2 HB2 F2 HS2)
    | ((with_reducible refine K.atO (.box 74 _) ?_); refine wpL_box rfl _ _ rfl _ rfl [vis bn] rfl ?_; intro w3 HB3 F3 HS3))
  have f13 := F2.out.trans' F3.out
  have hf3 : Fr No w w3 := F1.out.trans' f13
  have hs1 := HS1.out; have hs2 := HS2.out; have hs3 := HS3.out; have hbl := HBL.out
  refine (caught_any 83 [.pointer (some ⟨w.heap.size, 0, none⟩), .pointer (some ⟨w1.heap.size, 0, none⟩), .pointer (some ⟨w2.heap.size, 0, none⟩)] (KidsP m bn w.heap.size t c) (fun k => k = w.heap.size ∨ k = bn) w3 (by omega) (fun vs w => by kernel_rfl) (fun o a b h => h.1) ?_).mono ?_
  · intro v0 f0 hs0
    exact rc1_any m bn w.heap.size w1.heap.size w2.heap.size t c v0 HIH.out (by rw [HCS.out]; exact (HB1.out.fr f13 id).fr f0 id) (by rw [HDD.out]; exact (HB2.out.fr F3.out id).fr f0 id) (HB3.out.fr f0 id) ((HB.out.fr hf3 id).fr f0 id) (by omega) (by omega) (by omega) (by omega) (by omega) HC.out
  · rintro e w6 ⟨o, w4, w5, rfl, f4, hs4, hp, f6⟩
    have hfall : Fr (fun k => k = bn) w w6 := ((((hf3.trans' f4).no (D := fun k => k = bn)).trans hp.1 (fun k hk => hk.elim (fun e => .inr (by omega)) (fun e => .inl e))).trans f6 (fun k hk => .inr (by have e : k = w3.heap.size := hk; have := hf3.size; omega)))
    have HFA := hid hfall
    have HP := hid hp.2
    have hsz4 : w.heap.size ≤ w4.heap.size := by omega
    have HS4 := hid hsz4
    have hse : ∀ k, k = w3.heap.size → k < w4.heap.size ∧ k ≠ bn := fun k hk => by omega
    have HSE := hid hse; have HF6 := hid f6
    clear hfall hsz4 hse f6 hp hs4 f4 f13 hf3 hs1 hs2 hs3 hbl
    cases o with
    | none =>
      obtain ⟨ks, v, L, hks, hK⟩ := HP.out
      have HKS := hid hks
      have HKK := hid (hK.fr HF6.out (fun k hk => HSE.out k hk))
      clear HP hks hK
      show (match Ending.returned (.int .i64 0), w6 with | _, _ => _)
      go_wp2_with fail
      refine (must_any true 90 w6).mono ?_
      rintro e w7 ⟨rfl, ⟨_, rfl⟩ | ⟨h, _⟩⟩
      rotate_left
      · cases h
      go_wp2_with fail
      refine (must_any true 0 w7).mono ?_
      rintro e w8 ⟨rfl, ⟨_, rfl⟩ | ⟨h, _⟩⟩
      rotate_left
      · cases h
      go_wp2_with fail
      go_end0
      refine ⟨HFA.out, ?_⟩
      rw [HKS.out]
      exact ⟨rfl, v, L, w4.heap.size, HS4.out, HKK.out⟩
    | some k =>
      have hk : kidsG (rd m) c.length c = .error k := HP.out
      have hne := kids_ne hk
      have HK := hid hk
      show (match Ending.returned (.int .i64 (k : Int)), w6 with | _, _ => _)
      clear HP hk
      by_cases h92 : k = 92
      · subst h92
        clear hne
        go_wp2_with fail
        refine (must_any false 90 w6).mono ?_
        rintro e w7 ⟨rfl, ⟨h, _⟩ | ⟨_, rfl⟩⟩
        · cases h
        refine ⟨rfl, HFA.out, ?_⟩
        rw [HK.out]
        rfl
      · have h92i : ((k : Int) == 92) = false := by simp; omega
        have hnei : ((k : Int) == 0) = false := by simp; omega
        have H92 := hid h92
        clear hne h92
        go_wp2_with fail
        refine (must_any _ 90 w6).mono ?_
        rintro e w7 ⟨rfl, ⟨_, rfl⟩ | ⟨h, _⟩⟩
        rotate_left
        · exfalso; simp at h; have := H92.out; omega
        go_wp2_with fail
        refine (must_any false k w7).mono ?_
        rintro e w8 ⟨rfl, ⟨h, _⟩ | ⟨_, rfl⟩⟩
        · cases h
        refine ⟨rfl, HFA.out, ?_⟩
        rw [HK.out]
        simp only
        rw [if_neg H92.out]
end Go.Proofs.Ythjmkfpdbbfcpaa.BE

namespace Go.Proofs.Ythjmkfpdbbfcpaa.BE
set_option maxRecDepth 100000
open Go.RowKit K

theorem len_le {m : Nat} : ∀ (ks : List Nd), (∀ x ∈ ks, 1 ≤ (enc m x).length) → ks.length ≤ (ks.map (enc m)).flatten.length
  | [], _ => Nat.zero_le _
  | x :: r, h => by
    rw [List.map_cons, List.flatten_cons, List.length_append, List.length_cons]
    have := h x (by simp)
    have := len_le r (fun y hy => h y (by simp [hy]))
    omega
theorem own_range {w : World} {base : Nat} {e : TypeId} {size : Nat} {v : Value} {n : Nat} {xs : List Value} (h : w.ownsRow base e size v n xs) :
    (v = .slice none 0 0 ∧ n = 0) ∨ ∃ g cap, v = .slice (some ⟨g, 0, none⟩) n cap ∧ base ≤ g ∧ g < w.heap.size ∧ n ≤ cap ∧ w.rangeAt g 0 xs := by
  rcases h.2 with h0 | ⟨g, cap, cur, rfl, hb, hg, h1, h2, h3, h4⟩
  · exact .inl h0
  · refine .inr ⟨g, cap, rfl, hb, (Array.getElem?_eq_some_iff.1 hg).1, h1, ?_⟩
    exact Blk.range (t := e) (cs := cur.toList) (by simpa [Blk] using hg) 0 _ (by rw [List.drop_zero, h.1]; exact h4)
theorem KS.nd {m base bn : Nat} {t : Int} {ks : List Nd} {v : Value} {L : List (List Value)} {w : World} (h : KS m base bn t ks v L w) {N : Nat} (hN : N ≤ base) (ht : 0 ≤ t ∧ t ≤ 255) (hk : ks.length ≤ 140737488351232) :
    NdAt (m + 1) (Since N) w (.mk t [] ks) [.int .i64 t, .string ⟨#[]⟩, v] := by
  rcases own_range h.r with ⟨rfl, h0⟩ | ⟨g, cap, rfl, hb, hg, hcp, hr⟩
  · have hks : ks = [] := List.eq_nil_of_length_eq_zero h0
    subst hks
    exact ⟨none, 0, rfl, by show _ ≤ t ∧ t ≤ _; omega, Nat.zero_le _, Nat.zero_le _, .inl rfl⟩
  · exact ⟨some ⟨g, 0, none⟩, cap, rfl, by show _ ≤ t ∧ t ≤ _; omega, Nat.zero_le _, Nat.le_min.2 ⟨hcp, hk⟩, .inr ⟨g, 0, L, rfl, Nat.le_trans hN hb, hg, hr, h.l, fun j x c hx hc => NdAt.mono (fun k _ hs => Nat.le_trans hN hs.1) (h.k j x c hx hc)⟩⟩
theorem leaf_nd (m N : Nat) (w : World) (t : Int) (b : B) (ht : 0 ≤ t ∧ t ≤ 255) (hb : b.length ≤ 140737488351232) : NdAt (m + 1) (Since N) w (.mk t b []) [.int .i64 t, .string (sb b), .slice none 0 0] :=
  ⟨none, 0, rfl, by show _ ≤ t ∧ t ≤ _; omega, hb, Nat.zero_le _, .inl rfl⟩
theorem KS.self {m base bn : Nat} {t : Int} {ks : List Nd} {v : Value} {L : List (List Value)} {w w' : World} (h : KS m base bn t ks v L w) (hbn : bn < base) (hB : Blk w' bn 44 [.int .i64 t, .string ⟨#[]⟩, v]) (hf : Fr (fun k => k = bn) w w') : KS m base bn t ks v L w' :=
  ⟨hB, own_fr h.r hf (fun k hk e => by have := own_low h.r k hk; have e : k = bn := e; omega), h.l, fun j x c hx hc => NdAt.fr hf (fun k hk _ e => by have e : k = bn := e; have := hk.1; omega) (h.k j x c hx hc)⟩
theorem kids_len {m : Nat} {c : B} {ks : List Nd} (h : kidsG (rd m) c.length c = .ok ks) : ks.length ≤ c.length := by
  obtain ⟨h1, h2⟩ := kids_inv _ _ _ (rd_inv m) h
  have := len_le (m := m) ks (fun x hx => by
    obtain ⟨k, hk⟩ := deep_succ (h2 x hx).1
    subst hk
    have := enc_len k x
    omega)
  rwa [h1] at this
/-- What is read behind a head. -/
def rdT (m : Nat) (s : B) (t c h : Nat) : Except Nat (Nd × Nat) :=
  if s.length < h + c then .error 92
  else if conB t then match kidsG (rd m) ((s.drop h).take c).length ((s.drop h).take c) with
    | .error e => .error (if e = 92 then 90 else e)
    | .ok ks => .ok (.mk t [] ks, h + c)
  else .ok (.mk t ((s.drop h).take c) [], h + c)
theorem rd_succ {m : Nat} {s : B} {t c h : Nat} (hh : hdS s = .ok (t, c, h)) : rd (m + 1) s = rdT m s t c h := by
  unfold rd
  rw [hh]
  rfl
set_option maxHeartbeats 8000000 in
theorem read_any : ∀ (m : Nat), m ≤ 8 → ReadOk m := by
  intro m
  induction m with
  | zero =>
    intro _ s w hs
    obtain ⟨ss, hss⟩ : ∃ ss, sb s = ss := ⟨_, rfl⟩
    rw [hss]
    clear hs hss
    go_enter Try.func28, Try.ntmps28
    go_wp2_with ((with_reducible refine K.atO (.alloc 44) ?_); refine wpL_alloc rfl _ rfl _ zeroN [.int .i64 0, .string ⟨#[]⟩, .slice none 0 0] rfl ?_; intro w1 HB1 F1 HS1)
    refine (must_any false 91 w1).mono ?_
    rintro e w2 ⟨rfl, ⟨h, _⟩ | ⟨_, rfl⟩⟩
    · cases h
    exact ⟨rfl, F1.out, rfl⟩
  | succ m ih =>
    intro hm s w hs
    have HIH := hid (ih (by omega)); have HSL := hid hs
    have hd : ((9 - (m + 1) : Nat) : Int) = 8 - m := by omega
    have hd8 : (8 - (m : Int)) ≤ 8 := by omega
    have hd0 : 0 ≤ (8 - (m : Int)) := by omega
    rw [hd]
    obtain ⟨q, hq⟩ : ∃ q, 8 - (m : Int) = q := ⟨_, rfl⟩
    rw [hq] at hd8 hd0 ⊢
    have HQ := hid (show q + 1 = ((9 - m : Nat) : Int) by omega)
    have hsz : ((sb s).size : Int) = s.length := by rw [sb_size]
    obtain ⟨sl, hsl⟩ : ∃ sl, s.length = sl := ⟨_, rfl⟩
    rw [hsl] at hsz hs
    have HSE := hid hsl
    have hsli : (sl : Int) ≤ 281474976710656 := by omega
    clear ih hm hd hq hsl hs
    have hmf : ∀ (fn : Fn) (first cap : Array Value) (w : World), (Instr.makeFunc fn first cap).run Try.prog w = .ok (.func fn first cap) w := fun _ _ _ _ => rfl
    go_enter Try.func28, Try.ntmps28
    go_wp2_with ((with_reducible refine K.atO (.alloc 44) ?_); refine wpL_alloc rfl _ rfl _ zeroN [.int .i64 0, .string ⟨#[]⟩, .slice none 0 0] rfl ?_; intro w1 HB1 F1 HS1)
    refine (must_any true 91 w1).mono ?_
    rintro e w2 ⟨rfl, ⟨_, rfl⟩ | ⟨h, _⟩⟩
    rotate_left
    · cases h
    go_wp2_with fail
    refine (readHead_any s HSL.out w2).mono ?_
    rintro e w3 ⟨f3, h3⟩
    have HF3 := hid (F1.out.trans' f3)
    have HB3 := hid (HB1.out.fr f3 id)
    clear f3 HB1
    cases hh : hdS s with
    | error k =>
      rw [hh] at h3
      simp only at h3
      subst h3
      refine ⟨rfl, HF3.out, ?_⟩
      have e : rd (m + 1) s = .error k := by unfold rd; rw [hh]
      rw [e]
    | ok p =>
      obtain ⟨t, c, h⟩ := p
      rw [hh] at h3
      simp only at h3
      subst h3
      obtain ⟨b, htb, htag, hc4, hhl, r, hsr⟩ := hd_inv hh
      have hlp := len_pos c
      have ht255 := lt256 b
      rw [← htb] at ht255 htag
      have HH := hid hh; have HTG := hid htag
      have hrd := rd_succ (m := m) hh
      have HRD := hid hrd
      have hh4 : h ≤ 4 := by omega
      clear hsr htb htag hhl hlp hh hrd
      have hci : (c : Int) ≤ 4000 := by omega
      have hhi : (h : Int) ≤ 4 := by omega
      go_wp2_with fail
      refine (must_any _ 92 w3).mono ?_
      rintro e w4 ⟨rfl, ⟨hb, rfl⟩ | ⟨hb, rfl⟩⟩
      rotate_left
      · refine ⟨rfl, HF3.out, ?_⟩
        have hlt := of_decide_eq_false hb
        rw [HRD.out]
        unfold rdT
        rw [if_pos (by rw [HSE.out]; omega)]
      have hle := of_decide_eq_true hb
      have hlen : h + c ≤ sl := by omega
      have HLEN := hid hlen
      clear hb hle
      go_wp2_with (first
        | ((with_reducible refine K.atO (.store 3 _ _) ?_); refine wpL_setV rfl _ _ _ rfl w.heap.size 0 (.int .i64 (t : Int)) rfl rfl rfl rfl _ _ HB3.out (by simp) infoI ?_; intro w5 HB5 F5 HS5))
      refine (isCon_any t HTG.out w5).mono ?_
      rintro e w6 ⟨rfl, rfl⟩
      have hnl : ¬ s.length < h + c := by rw [HSE.out]; omega
      have HNL := hid hnl
      obtain ⟨bd, hbd⟩ : ∃ bd, (s.drop h).take c = bd := ⟨_, rfl⟩
      have hbl : bd.length = c := by rw [← hbd, List.length_take, List.length_drop, HSE.out]; omega
      have HBD := hid hbd; have HBDL := hid hbl
      have f6 : Fr No w w6 := HF3.out.trans F5.out (fun i e => .inr (by have e : i = w.heap.size := e; omega))
      have HF6 := hid f6
      clear hnl hbd hbl f6
      cases hcn : conB t with
      | false =>
        have HCN := hid hcn
        clear hcn
        go_wp2_with (first
          | ((with_reducible refine K.atO (.slice 9 _ _ _ _) ?_); refine wpL_valZ rfl (.string (sb bd)) (exec_two _ _ _ rfl s h (h + c) rfl rfl (by push_cast; rfl) (by omega) (by have := HSE.out; omega) _ (by rw [Nat.add_sub_cancel_left]; exact HBD.out) _) ?_)
          | ((with_reducible refine K.atO (.store 9 _ _) ?_); refine wpL_setV rfl _ _ _ rfl w.heap.size 1 (.string (sb bd)) rfl rfl rfl rfl _ _ HB5.out (by simp) infoStr ?_; intro w7 HB7 F7 HS7)
          | ((with_reducible refine K.atO (.load 44 _) ?_); refine wpL_load rfl _ _ rfl w.heap.size 0 rfl [.int .i64 (t : Int), .string (sb bd), .slice none 0 0] _ (HB7.out.range 0 _ rfl) rfl rfl infoN ?_)
          | ((with_reducible refine K.atO (.store 44 _ _) ?_); refine wpL_storeV rfl _ _ _ rfl w.heap.size 0 (.agg #[.int .i64 (t : Int), .string (sb bd), .slice none 0 0]) [.int .i64 (t : Int), .string (sb bd), .slice none 0 0] rfl rfl rfl _ _ HB7.out (by simp) infoN (by intro u hu; simp at hu; rcases hu with rfl | rfl | rfl <;> rfl) ?_; intro w8 HB8 F8 HS8))
        have hb8 : Blk w8 w.heap.size 44 [.int .i64 (t : Int), .string (sb bd), .slice none 0 0] := by have h := HB8.out; rwa [spl_all (by simp)] at h
        refine ret_cell2 rfl _ rfl hb8 rfl rfl (by simpa using infoN) rfl ?_
        refine ⟨(HF6.out.trans F7.out (fun i e => .inr (by have e : i = w.heap.size := e; omega))).trans F8.out (fun i e => .inr (by have e : i = w.heap.size := e; omega)), ?_⟩
        rw [HRD.out]
        unfold rdT
        rw [if_neg HNL.out, if_neg (by rw [HCN.out]; simp), HBD.out]
        exact ⟨_, by simp, leaf_nd m _ _ _ _ (by omega) (by have := HBDL.out; omega)⟩
      | true =>
        have HCN := hid hcn
        clear hcn
        go_wp2_with (first
          | ((with_reducible refine K.atO (.slice 9 _ _ _ _) ?_); refine wpL_valZ rfl (.string (sb bd)) (exec_two _ _ _ rfl s h (h + c) rfl rfl (by push_cast; rfl) (by omega) (by have := HSE.out; omega) _ (by rw [Nat.add_sub_cancel_left]; exact HBD.out) _) ?_))
        rw [HQ.out]
        refine (readKids_any m w.heap.size t bd w6 HIH.out HB5.out (by rw [HBDL.out]; exact hc4)).mono ?_
        rintro e w7 ⟨f7, hk⟩
        have HF7 := hid f7
        clear f7
        cases hkg : kidsG (rd m) bd.length bd with
        | error k =>
          rw [hkg] at hk
          simp only at hk
          subst hk
          refine ⟨rfl, HF6.out.trans HF7.out (fun i e => .inr (by have e : i = w.heap.size := e; omega)), ?_⟩
          rw [HRD.out]
          unfold rdT
          rw [if_neg HNL.out, if_pos HCN.out, HBD.out, hkg]
        | ok ks =>
          rw [hkg] at hk
          simp only at hk
          obtain ⟨rfl, v, L, base, hbase, hKS⟩ := hk
          have hklen := kids_len hkg
          have HKG := hid hkg; have HKS := hid hKS; have HBA := hid (show w.heap.size < base by have := HB5.out.lt; omega)
          have HKLEN := hid (show ks.length ≤ 140737488351232 by have := HBDL.out; omega)
          obtain ⟨v1, v2, hv12, -, -⟩ := own_form hKS.r
          have HV := hid hv12
          clear hkg hKS hbase hklen hv12
          go_wp2_with (first
            | ((with_reducible refine K.atO (.load 44 _) ?_); refine wpL_load rfl _ _ rfl w.heap.size 0 rfl [.int .i64 (t : Int), .string ⟨#[]⟩, v] _ (HKS.out.b.range 0 _ rfl) rfl rfl infoN ?_)
            | ((with_reducible refine K.atO (.store 44 _ _) ?_); refine wpL_storeV rfl _ _ _ rfl w.heap.size 0 (.agg #[.int .i64 (t : Int), .string ⟨#[]⟩, v]) [.int .i64 (t : Int), .string ⟨#[]⟩, v] rfl rfl rfl _ _ HKS.out.b (by simp) infoN (by intro u hu; simp at hu; rcases hu with rfl | rfl | rfl; rfl; rfl; rw [HV.out]; rfl) ?_; intro w8 HB8 F8 HS8))
          have hb8 : Blk w8 w.heap.size 44 [.int .i64 (t : Int), .string ⟨#[]⟩, v] := by have h := HB8.out; rwa [spl_all (by simp)] at h
          refine ret_cell2 rfl _ rfl hb8 rfl rfl (by simpa using infoN) rfl ?_
          refine ⟨(HF6.out.trans HF7.out (fun i e => .inr (by have e : i = w.heap.size := e; omega))).trans F8.out (fun i e => .inr (by have e : i = w.heap.size := e; omega)), ?_⟩
          rw [HRD.out]
          unfold rdT
          rw [if_neg HNL.out, if_pos HCN.out, HBD.out, HKG.out]
          exact ⟨_, by simp, (HKS.out.self HBA.out hb8 F8.out).nd (Nat.le_of_lt HBA.out) (by omega) HKLEN.out⟩
end Go.Proofs.Ythjmkfpdbbfcpaa.BE
