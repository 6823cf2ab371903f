/-
  Part 24 of the proof: MqO.
-/
import Derived.Test.YtdkpcfpebmabkaaMo23
set_option linter.unusedSimpArgs false
set_option linter.unusedVariables false
namespace Go.Proofs.Ytdkpcfpebmabkaa.ME
set_option maxRecDepth 100000
open Go.RowKit K Go.Proofs.Ytdkpcfpebmabkaa.BE Go.Proofs.Ytdkpcfpebmabkaa.FR

theorem wb_of_dec {s : B} {m : Msg} (h : decR s = some m) : WB m := by
  unfold decR at h
  cases hr : rd 8 s with
  | error k => rw [hr] at h; cases h
  | ok q =>
    obtain ⟨n, u⟩ := q
    rw [hr] at h
    simp only at h
    obtain ⟨i1, i2, i3, -, -, -⟩ := rd_inv 8 s n u hr
    split at h
    · cases h; exact wb_read (okB_of i1 i2 i3)
    · cases h
set_option maxHeartbeats 16000000 in
theorem messageOnly_walk (s : B) (w : World) (hs : s.length ≤ 140737488351232) : Calls Try.prog 4 #[.string (sb s)] w fun e w' => e = .returned (.bool true) ∧ Fr No w w' := by
  have HS := hid hs
  clear hs
  cases hd : decR s with
  | none =>
    have HD : Hid (decP s = (msg0 0 0, 110)) := hid (by unfold decP; rw [hd])
    clear hd
    obtain ⟨S, hS⟩ : ∃ S, sb s = S := ⟨_, rfl⟩
    have HSS := hid hS
    rw [hS]
    clear hS
    go_enter Try.func4, Try.ntmps4
    go_wp2_with fail
    refine (awake_any w).mono ?_
    rintro e w1 ⟨rfl, f1⟩
    have F1 := hid f1
    clear f1
    go_wp2_with fail
    rw [← HSS.out]
    refine (pdecode_any s w1 (by have := HS.out; omega)).mono ?_
    rintro e w2 ⟨vk1, va1, vw1, vl1, vm1, rfl, hm, f2⟩
    rw [HD.out] at hm ⊢
    have HM := hid (mcs_one hm); have F2 := hid (F1.out.trans' f2)
    clear hm f2
    show (match Ending.returned (Value.tuple #[.agg #[.int .i64 0, .int .i64 0, .int .i64 0, .string ⟨#[]⟩, .string ⟨#[]⟩, .int .i64 0, .int .i64 0, .int .i64 0, .int .i64 0, .bool false, .int .i64 0, vk1, .string ⟨#[]⟩, .string ⟨#[]⟩, .string ⟨#[]⟩, va1, .string ⟨#[]⟩, vw1, vl1, vm1, .string ⟨#[]⟩, .bool false, .bool false, .string ⟨#[]⟩, .string ⟨#[]⟩, .string ⟨#[]⟩, .int .i64 0, .int .i64 0, .string ⟨#[]⟩, .string ⟨#[]⟩], .int .i64 110]), w2 with | _, _ => _)
    go_wp2_with (first
      | ((with_reducible show wpList _ _ _ (⟨_, .alloc 29, _, _, _, _⟩ :: _) _ _); refine wpL_alloc rfl _ rfl _ zeroMsg [.int .i64 0, .int .i64 0, .int .i64 0, .string ⟨#[]⟩, .string ⟨#[]⟩, .int .i64 0, .int .i64 0, .int .i64 0, .int .i64 0, .bool false, .int .i64 0, .slice none 0 0, .string ⟨#[]⟩, .string ⟨#[]⟩, .string ⟨#[]⟩, .slice none 0 0, .string ⟨#[]⟩, .slice none 0 0, .slice none 0 0, .slice none 0 0, .string ⟨#[]⟩, .bool false, .bool false, .string ⟨#[]⟩, .string ⟨#[]⟩, .string ⟨#[]⟩, .int .i64 0, .int .i64 0, .string ⟨#[]⟩, .string ⟨#[]⟩] rfl ?_; intro w3 HB3 F3 HS3)
      | ((with_reducible show wpList _ _ _ (⟨_, .store 29 _ _, _, _, _, _⟩ :: _) _ _); refine wpL_storeV rfl _ _ _ rfl w2.heap.size 0 (.agg #[.int .i64 0, .int .i64 0, .int .i64 0, .string ⟨#[]⟩, .string ⟨#[]⟩, .int .i64 0, .int .i64 0, .int .i64 0, .int .i64 0, .bool false, .int .i64 0, vk1, .string ⟨#[]⟩, .string ⟨#[]⟩, .string ⟨#[]⟩, va1, .string ⟨#[]⟩, vw1, vl1, vm1, .string ⟨#[]⟩, .bool false, .bool false, .string ⟨#[]⟩, .string ⟨#[]⟩, .string ⟨#[]⟩, .int .i64 0, .int .i64 0, .string ⟨#[]⟩, .string ⟨#[]⟩]) [.int .i64 0, .int .i64 0, .int .i64 0, .string ⟨#[]⟩, .string ⟨#[]⟩, .int .i64 0, .int .i64 0, .int .i64 0, .int .i64 0, .bool false, .int .i64 0, vk1, .string ⟨#[]⟩, .string ⟨#[]⟩, .string ⟨#[]⟩, va1, .string ⟨#[]⟩, vw1, vl1, vm1, .string ⟨#[]⟩, .bool false, .bool false, .string ⟨#[]⟩, .string ⟨#[]⟩, .string ⟨#[]⟩, .int .i64 0, .int .i64 0, .string ⟨#[]⟩, .string ⟨#[]⟩] rfl rfl rfl _ _ HB3.out (by simp) infoMsg (by intro u hu; exact HM.out u hu) ?_; intro w4 HB4 F4 HS4; have c1 : w4.cell? ⟨w2.heap.size, 1, none⟩ = some (.int .i64 0) := HB4.out.cell 1)
      | fail)
    go_ret
    exact ⟨rfl, F2.out.trans' (F3.out.trans F4.out fun k e => .inr (by have e : k = w2.heap.size := e; omega))⟩
  | some m =>
    have HD1 : Hid ((decP s).1 = m) := hid (by unfold decP; rw [hd])
    have HD2 : Hid (((decP s).2 : Int) = 0) := hid (by unfold decP; rw [hd]; rfl)
    obtain ⟨hr, he, hes⟩ := decR_only hd
    have HR := hid hr
    have HE1 : Hid ((encM m).1 = s) := hid (by unfold encM; rw [if_pos hr]; exact hes)
    have HE2 : Hid (((encM m).2 : Int) = 0) := hid (by unfold encM; rw [if_pos hr]; show ((errN (pieceM m) : Nat) : Int) = 0; rw [he]; rfl)
    have HWB : Hid (WB m) := hid (wb_of_dec hd)
    clear hd hr he hes
    obtain ⟨S, hS⟩ : ∃ S, sb s = S := ⟨_, rfl⟩
    have HSS := hid hS
    rw [hS]
    clear hS
    go_enter Try.func4, Try.ntmps4
    go_wp2_with fail
    refine (awake_any w).mono ?_
    rintro e w1 ⟨rfl, f1⟩
    have F1 := hid f1
    clear f1
    go_wp2_with fail
    rw [← HSS.out]
    refine (pdecode_any s w1 (by have := HS.out; omega)).mono ?_
    rintro e w2 ⟨vk, va, vw, vl, vm, rfl, hm, f2⟩
    rw [HD1.out] at hm ⊢
    rw [HD2.out, HSS.out]
    have HONE := hid (mcs_one hm); have F2 := hid (F1.out.trans' f2); have HM := hid hm
    have HLEN := hid (show (Try.prog.info? 29).map (·.size) = some (mcs m vk va vw vl vm).length from infoMsg)
    have HRC : Hid (∀ w', Fr No w2 w' → Calls Try.prog 11 #[.agg (mcs m vk va vw vl vm).toArray] w' fun e w'' => e = .returned (.bool (rightM m)) ∧ Fr No w' w'') := hid (fun w' hf => pRight_any 6 _ m vk va vw vl vm w' (hm.no hf))
    have HEC : Hid (∀ w', Fr No w2 w' → Calls Try.prog 8 #[.agg (mcs m vk va vw vl vm).toArray] w' fun e w'' => e = .returned (.tuple #[.string (sb (encM m).1), .int .i64 ((encM m).2 : Int)]) ∧ Fr No w' w'') := hid (fun w' hf => pencode_any 6 _ m vk va vw vl vm w' (hm.no hf) HWB.out)
    rw [HR.out] at HRC
    rw [HE1.out, HE2.out] at HEC
    obtain ⟨C, hC⟩ : ∃ C, mcs m vk va vw vl vm = C := ⟨_, rfl⟩
    have HCL : Hid (C.length = 30) := hid (by rw [← hC]; rfl)
    rw [hC] at HONE HLEN HEC HRC ⊢
    clear hm f2 hC
    go_wp2_with (first
      | ((with_reducible show wpList _ _ _ (⟨_, .alloc 29, _, _, _, _⟩ :: _) _ _); refine wpL_alloc rfl _ rfl _ zeroMsg [.int .i64 0, .int .i64 0, .int .i64 0, .string ⟨#[]⟩, .string ⟨#[]⟩, .int .i64 0, .int .i64 0, .int .i64 0, .int .i64 0, .bool false, .int .i64 0, .slice none 0 0, .string ⟨#[]⟩, .string ⟨#[]⟩, .string ⟨#[]⟩, .slice none 0 0, .string ⟨#[]⟩, .slice none 0 0, .slice none 0 0, .slice none 0 0, .string ⟨#[]⟩, .bool false, .bool false, .string ⟨#[]⟩, .string ⟨#[]⟩, .string ⟨#[]⟩, .int .i64 0, .int .i64 0, .string ⟨#[]⟩, .string ⟨#[]⟩] rfl ?_; intro w3 HB3 F3 HS3)
      | ((with_reducible show wpList _ _ _ (⟨_, .store 29 _ _, _, _, _, _⟩ :: _) _ _); refine wpL_storeV rfl _ _ _ rfl w2.heap.size 0 (.agg C.toArray) C rfl rfl rfl _ _ HB3.out (by rw [HCL.out]; simp) HLEN.out HONE.out ?_; intro w4 HB4 F4 HS4; have HBC : Hid (Blk w4 w2.heap.size 29 C) := hid (by have h := HB4.out; rwa [spl_all (by rw [HCL.out]; simp)] at h))
      | ((with_reducible show wpList _ _ _ (⟨_, .load 29 _, _, _, _, _⟩ :: _) _ _); refine wpL_load rfl _ _ rfl w2.heap.size 0 rfl C _ (HBC.out.range 0 _ (by rw [List.drop_zero, List.take_length])) rfl rfl HLEN.out ?_)
      | fail)
    have f24 : Fr No w2 w4 := F3.out.trans F4.out fun k e => .inr (by have e : k = w2.heap.size := e; omega)
    refine (HRC.out w4 f24).mono ?_
    rintro e w5 ⟨rfl, f5⟩
    have HB5 := hid (HBC.out.fr f5 id); have f25 := f24.trans' f5
    go_wp2_with (first
      | ((with_reducible show wpList _ _ _ (⟨_, .load 29 _, _, _, _, _⟩ :: _) _ _); refine wpL_load rfl _ _ rfl w2.heap.size 0 rfl C _ (HB5.out.range 0 _ (by rw [List.drop_zero, List.take_length])) rfl rfl HLEN.out ?_)
      | fail)
    refine (HEC.out w5 f25).mono ?_
    rintro e w6 ⟨rfl, f6⟩
    have F6 := hid (F2.out.trans' (f25.trans' f6))
    clear f24 f5 f25 f6
    rw [← HSS.out]
    go_wp2_with (first
      | ((with_reducible show wpList _ _ _ (⟨_, .binOp .eql 9 _ _ _, _, _, _, _⟩ :: _) _ _); refine wpL_valZ (by rfl) (.bool true) ((exec_eqS _ _ _ rfl s s rfl rfl _).trans (by simp)) ?_)
      | fail)
    go_ret
    exact ⟨rfl, F6.out⟩
end Go.Proofs.Ytdkpcfpebmabkaa.ME
