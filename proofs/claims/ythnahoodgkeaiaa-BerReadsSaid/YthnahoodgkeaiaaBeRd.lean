/-
  BerReads: whatever the bytes, both read the same of them.
-/
import Derived.Test.YthnahoodgkeaiaaBeW
import Derived.Test.YthnahoodgkeaiaaBf8
import Derived.Test.YthnahoodgkeaiaaBf10
set_option linter.unusedVariables false
set_option linter.unusedSimpArgs false
namespace Go.Proofs.Ythnahoodgkeaiaa.BE
set_option maxRecDepth 100000
open Go.RowKit K

set_option maxHeartbeats 16000000 in
theorem berReads_walk (t0 : B) (w : World) (ht : t0.length ≤ 140737488351232) : Calls Try.prog 4 #[.string (sb t0)] w fun e w' => e = .returned (.bool true) ∧ Fr No w w' := by
  have HT := hid (show t0.length ≤ 281474976710656 by omega)
  obtain ⟨ss, hss⟩ : ∃ ss, sb t0 = ss := ⟨_, rfl⟩
  rw [hss]
  have HSS := hid hss
  clear ht hss
  go_enter Try.func4, Try.ntmps4
  go_wp2_with fail
  refine (awake_any w).mono ?_
  rintro e w2 ⟨rfl, f2⟩
  have F2 := hid f2
  clear f2
  go_wp2_with fail
  rw [← HSS.out]
  refine (decode_any t0 w2 HT.out).mono ?_
  rintro e w3 ⟨f3, ds, rfl, hm⟩
  rw [HSS.out]
  obtain ⟨x, y, z, hds⟩ := box_kid ds hm.len
  subst hds
  have F3 := hid (F2.out.trans' f3); have HM := hid hm
  clear f3 hm
  obtain ⟨us, hus⟩ : ∃ us, (decN t0).2.1 = us := ⟨_, rfl⟩
  obtain ⟨er, her⟩ : ∃ er, (decN t0).2.2 = er := ⟨_, rfl⟩
  rw [hus, her]
  have HUS := hid hus; have HER := hid her
  clear hus her
  go_wp2_with (first
    | ((with_reducible show wpList _ _ _ (⟨_, .alloc 24, _, _, _, _⟩ :: _) _ _); refine wpL_alloc rfl _ rfl _ zeroN zN rfl ?_; intro w4 HB4 F4 HS4)
    | ((with_reducible show wpList _ _ _ (⟨_, .store 24 _ _, _, _, _, _⟩ :: _) _ _); refine wpL_storeV rfl _ _ _ rfl w3.heap.size 0 (.agg #[x, y, z]) [x, y, z] rfl rfl rfl _ _ HB4.out (by simp [zN]) infoN (by intro u hu; exact HM.out.one u hu) ?_; intro w5 HB5 F5 HS5)
    | fail)
  have hb5 : Blk w5 w3.heap.size 24 [x, y, z] := by have h := HB5.out; rwa [spl_all (by simp [zN])] at h
  have hf35 : Fr No w3 w5 := F4.out.trans F5.out (fun i e => .inr (by have e : i = w3.heap.size := e; omega))
  have HB5' := hid hb5; have F35 := hid hf35; have F5' := hid (F3.out.trans' hf35)
  clear hb5 hf35
  rw [← HSS.out]
  refine (docDecode_any t0 w5 HT.out).mono ?_
  rintro e w6 ⟨f6, ds, rfl, hm⟩
  rw [HSS.out]
  obtain ⟨x', y', z', hds⟩ := box_kid ds hm.len
  subst hds
  have F56 := hid f6; have F6 := hid (F5'.out.trans' f6); have HM2 := hid hm; have HB6 := hid (HB5'.out.fr f6 id)
  clear f6 hm
  rw [HUS.out, HER.out]
  go_wp2_with (first
    | ((with_reducible show wpList _ _ _ (⟨_, .alloc 24, _, _, _, _⟩ :: _) _ _); refine wpL_alloc rfl _ rfl _ zeroN zN rfl ?_; intro w7 HB7 F7 HS7)
    | ((with_reducible show wpList _ _ _ (⟨_, .store 24 _ _, _, _, _, _⟩ :: _) _ _); refine wpL_storeV rfl _ _ _ rfl w6.heap.size 0 (.agg #[x', y', z']) [x', y', z'] rfl rfl rfl _ _ HB7.out (by simp [zN]) infoN (by intro u hu; exact HM2.out.one u hu) ?_; intro w8 HB8 F8 HS8;
        have HB8' : Hid (Blk w8 w6.heap.size 24 [x', y', z']) := hid (by have h := HB8.out; rwa [spl_all (by simp [zN])] at h);
        have F68 : Hid (Fr No w6 w8) := hid (F7.out.trans F8.out (fun i e => .inr (by have e : i = w6.heap.size := e; omega)));
        have HC8 : Hid (Blk w8 w3.heap.size 24 [x, y, z]) := hid (HB6.out.fr F68.out id))
    | ((with_reducible show wpList _ _ _ (⟨_, .load 24 _, _, _, _, _⟩ :: _) _ _); refine wpL_load rfl _ _ rfl w3.heap.size 0 rfl [x, y, z] _ (HC8.out.range 0 _ rfl) rfl rfl infoN ?_)
    | ((with_reducible show wpList _ _ _ (⟨_, .load 24 _, _, _, _, _⟩ :: _) _ _); refine wpL_load rfl _ _ rfl w6.heap.size 0 rfl [x', y', z'] _ (HB8'.out.range 0 _ rfl) rfl rfl infoN ?_)
    | fail)
  have n1 : NdAt 8 (Lo w8.heap.size) w8 (decN t0).1 [x, y, z] := NdAt.mono (fun k hk _ => hk) (HM.out.no ((F35.out.trans' F56.out).trans' F68.out))
  have n2 : NdAt 8 (Lo w8.heap.size) w8 (decN t0).1 [x', y', z'] := NdAt.mono (fun k hk _ => hk) (HM2.out.no F68.out)
  refine (same_any 8 8 w8.heap.size _ [x, y, z] [x', y', z'] w8 n1 n2 (Nat.le_refl _)).mono ?_
  rintro e w9 ⟨rfl, f9⟩
  have F9 := hid ((F6.out.trans' F68.out).trans' f9)
  clear f9 n1 n2
  go_wp2_with fail
  rw [← HSS.out]
  refine (head_any t0 w9 HT.out).mono ?_
  rintro e w10 ⟨rfl, f10⟩
  rw [HSS.out]
  have F10 := hid (F9.out.trans' f10)
  clear f10
  obtain ⟨X, hX⟩ : ∃ X, headN t0 = X := ⟨_, rfl⟩
  rw [hX]
  have HX := hid hX
  clear hX
  obtain ⟨xt, xc, xh, xe⟩ := X
  have hto : toldH (xt, xc, xh, xe) = .returned (.tuple #[.int .i64 (xt : Int), .int .i64 (xc : Int), .int .i64 (xh : Int), .int .i64 (xe : Int)]) := rfl
  rw [hto]
  have HTO := hid hto
  clear hto
  go_wp2_with fail
  rw [← HSS.out]
  refine (docHead_any t0 w10 HT.out).mono ?_
  rintro e w11 ⟨rfl, f11⟩
  rw [HX.out, HTO.out]
  have F11 := hid (F10.out.trans' f11)
  clear f11
  go_wp2_with fail
  go_ret
  exact ⟨rfl, F11.out⟩
end Go.Proofs.Ythnahoodgkeaiaa.BE
