/-
  BerOnly: what was read is written as it was.
-/
import Derived.Test.YthnahoodgkeaiaaBeW
set_option linter.unusedVariables false
set_option linter.unusedSimpArgs false
namespace Go.Proofs.Ythnahoodgkeaiaa.BE
set_option maxRecDepth 100000
open Go.RowKit K

set_option maxHeartbeats 16000000 in
theorem berOnly_walk (s : B) (w : World) (hs : s.length ≤ 140737488351232) : Calls Try.prog 6 #[.string (sb s)] w fun e w' => e = .returned (.bool true) ∧ Fr No w w' := by
  have HS := hid hs
  have hsz : ((sb s).size : Int) = s.length := by rw [sb_size]
  obtain ⟨sl, hsl⟩ : ∃ sl, s.length = sl := ⟨_, rfl⟩
  rw [hsl] at hsz
  have HSL := hid hsl
  clear hs hsl
  go_enter Try.func6, Try.ntmps6
  go_wp2_with fail
  refine (awake_any w).mono ?_
  rintro e w2 ⟨rfl, f2⟩
  have F2 := hid f2
  clear f2
  go_wp2_with fail
  refine (decode_any s w2 (by have := HS.out; omega)).mono ?_
  rintro e w4 ⟨f4, ds, rfl, hm⟩
  obtain ⟨x', y', z', hds⟩ := box_kid ds hm.len
  subst hds
  have F4 := hid (F2.out.trans' f4)
  clear f4
  cases hr : rd 8 s with
  | error k =>
    have hk : decN s = (noNd, 0, k) := by unfold decN; rw [hr]
    have hkn := rd_err 8 s k hr
    rw [hk] at hm ⊢
    have HM := hid hm
    have hki : ¬ (k : Int) = 0 := by omega
    clear hm hr hk hkn
    show (match Ending.returned (Value.tuple #[.agg #[x', y', z'], .int .i64 0, .int .i64 (k : Int)]), w4 with | _, _ => _)
    go_wp2_with (first
      | ((with_reducible show wpList _ _ _ (⟨_, .alloc 24, _, _, _, _⟩ :: _) _ _); refine wpL_alloc rfl _ rfl _ zeroN zN rfl ?_; intro w5 HB5 F5 HS5)
      | ((with_reducible show wpList _ _ _ (⟨_, .store 24 _ _, _, _, _, _⟩ :: _) _ _); refine wpL_storeV rfl _ _ _ rfl w4.heap.size 0 (.agg #[x', y', z']) [x', y', z'] rfl rfl rfl _ _ HB5.out (by simp [zN]) infoN (by intro u hu; exact HM.out.one u hu) ?_; intro w6 HB6 F6 HS6;
          have GF : Hid (Fr No w4 w6) := hid (F5.out.trans F6.out (fun i e => .inr (by have e : i = w4.heap.size := e; omega))))
      | fail)
    go_ret
    exact ⟨rfl, F4.out.trans' GF.out⟩
  | ok p =>
    obtain ⟨n, u⟩ := p
    have hk : decN s = (n, u, 0) := by unfold decN; rw [hr]
    obtain ⟨i1, i2, i3, i4, i5, i6⟩ := rd_inv 8 s n u hr
    rw [hk] at hm ⊢
    have her : errN n = 0 := err_zero.2 ⟨i1, i2, i3⟩
    have hes : encS n = s.take u := by unfold encS; rw [if_pos her]; exact i4
    rw [HSL.out] at i6
    have HM := hid hm; have HER := hid her; have HES := hid hes; have HU := hid (show 2 ≤ u ∧ u ≤ sl from ⟨i5, i6⟩)
    have hu2 : ¬ (u : Int) < 2 := by omega
    have hu3 : ¬ (sl : Int) < (u : Int) := by omega
    clear hm hr hk i1 i2 i3 i4 i5 i6 her hes
    show (match Ending.returned (Value.tuple #[.agg #[x', y', z'], .int .i64 (u : Int), .int .i64 0]), w4 with | _, _ => _)
    go_wp2_with (first
      | ((with_reducible show wpList _ _ _ (⟨_, .alloc 24, _, _, _, _⟩ :: _) _ _); refine wpL_alloc rfl _ rfl _ zeroN zN rfl ?_; intro w5 HB5 F5 HS5)
      | ((with_reducible show wpList _ _ _ (⟨_, .store 24 _ _, _, _, _, _⟩ :: _) _ _); refine wpL_storeV rfl _ _ _ rfl w4.heap.size 0 (.agg #[x', y', z']) [x', y', z'] rfl rfl rfl _ _ HB5.out (by simp [zN]) infoN (by intro u hu; exact HM.out.one u hu) ?_; intro w6 HB6 F6 HS6;
          have HB6' : Hid (Blk w6 w4.heap.size 24 [x', y', z']) := hid (by have h := HB6.out; rwa [spl_all (by simp [zN])] at h);
          have GF : Hid (Fr No w4 w6) := hid (F5.out.trans F6.out (fun i e => .inr (by have e : i = w4.heap.size := e; omega))))
      | ((with_reducible show wpList _ _ _ (⟨_, .load 24 _, _, _, _, _⟩ :: _) _ _); refine wpL_load rfl _ _ rfl w4.heap.size 0 rfl [x', y', z'] _ (HB6'.out.range 0 _ rfl) rfl rfl infoN ?_)
      | fail)
    have F6' := hid (F4.out.trans' GF.out)
    refine (encode_any 8 w6.heap.size n [x', y', z'] w6 (NdAt.mono (fun k hk _ => hk) (HM.out.no GF.out)) (Nat.le_refl _)).mono ?_
    rintro e w7 ⟨rfl, f7⟩
    have F7 := hid (F6'.out.trans' f7)
    clear f7
    rw [HER.out, HES.out]
    show (match Ending.returned (Value.tuple #[.string (sb (s.take u)), .int .i64 0]), w7 with | _, _ => _)
    obtain ⟨T, hT⟩ : ∃ T, s.take u = T := ⟨_, rfl⟩
    rw [hT]
    have HT := hid hT
    clear hT
    go_wp2_with (first
      | ((with_reducible show wpList _ _ _ (⟨_, .slice 9 _ _ _ _, _, _, _, _⟩ :: _) _ _); refine wpL_valZ (by rfl) (.string (sb T)) (exec_to _ _ rfl s u rfl rfl (by rw [HSL.out]; exact HU.out.2) _ HT.out _) ?_)
      | ((with_reducible show wpList _ _ _ (⟨_, .binOp .eql 9 _ _ _, _, _, _, _⟩ :: _) _ _); refine wpL_valZ (by rfl) (.bool true) ((exec_eqS _ _ _ rfl T T rfl rfl _).trans (by simp)) ?_)
      | fail)
    go_ret
    exact ⟨rfl, F7.out⟩
end Go.Proofs.Ythnahoodgkeaiaa.BE
