/-
  BerWrites: each piece's bytes, or what is wrong with it, are as the document says.
-/
import Derived.Test.YthnahoodgkeaiaaBeW
import Derived.Test.YthnahoodgkeaiaaBf6
set_option linter.unusedVariables false
set_option linter.unusedSimpArgs false
namespace Go.Proofs.Ythnahoodgkeaiaa.BE
set_option maxRecDepth 100000
open Go.RowKit K

set_option maxHeartbeats 16000000 in
theorem berWrites_walk (M : Nat) (n : Nd) (cs : List Value) (w : World) (hn : NdAt M (Lo w.heap.size) w n cs) : Calls Try.prog 3 #[.agg cs.toArray] w fun e w' => e = .returned (.bool true) ∧ Fr No w w' := by
  obtain ⟨x, y, z, hcs⟩ := box_kid cs hn.len
  subst hcs
  have HN := hid hn
  clear hn
  go_enter Try.func3, Try.ntmps3
  go_wp2_with (first
    | ((with_reducible show wpList _ _ _ (⟨_, .box 24 _, _, _, _, _⟩ :: _) _ _); refine wpL_box rfl _ _ rfl _ rfl [x, y, z] rfl ?_; intro w1 HB1 F1 HS1)
    | fail)
  refine (awake_any w1).mono ?_
  rintro e w2 ⟨rfl, f2⟩
  have F2 := hid (F1.out.trans' f2); have HB2 := hid (HB1.out.fr f2 id)
  clear f2
  go_wp2_with (first
    | ((with_reducible show wpList _ _ _ (⟨_, .load 24 _, _, _, _, _⟩ :: _) _ _); refine wpL_load rfl _ _ rfl w.heap.size 0 rfl [x, y, z] _ (HB2.out.range 0 _ rfl) rfl rfl infoN ?_)
    | fail)
  refine (few_any M w.heap.size n [x, y, z] 20000 w2 (by omega) (by omega) (HN.out.no F2.out) F2.out.size).mono ?_
  rintro e w3 ⟨f3, k, rfl, hk1, hk2, hk3⟩
  have F3 := hid (F2.out.trans' f3); have HB3 := hid (HB2.out.fr f3 id); have HK := hid hk3
  clear f3 hk3
  by_cases hk : 20000 < k
  · go_wp2_with fail
    go_ret
    exact ⟨rfl, F3.out⟩
  · have HSM := hid (HK.out (by omega) 8)
    go_wp2_with (first
      | ((with_reducible show wpList _ _ _ (⟨_, .load 24 _, _, _, _, _⟩ :: _) _ _); refine wpL_load rfl _ _ rfl w.heap.size 0 rfl [x, y, z] _ (HB3.out.range 0 _ rfl) rfl rfl infoN ?_)
      | fail)
    refine (encode_any M w.heap.size n [x, y, z] w3 (HN.out.no F3.out) F3.out.size).mono ?_
    rintro e w4 ⟨rfl, f4⟩
    have F4 := hid (F3.out.trans' f4); have HB4 := hid (HB3.out.fr f4 id)
    clear f4
    obtain ⟨E, hE⟩ : ∃ E, encS n = E := ⟨_, rfl⟩
    obtain ⟨er, her⟩ : ∃ er : Int, (errN n : Int) = er := ⟨_, rfl⟩
    rw [hE, her]
    have HE := hid hE; have HER := hid her
    clear hE her
    go_wp2_with (first
      | ((with_reducible show wpList _ _ _ (⟨_, .load 24 _, _, _, _, _⟩ :: _) _ _); refine wpL_load rfl _ _ rfl w.heap.size 0 rfl [x, y, z] _ (HB4.out.range 0 _ rfl) rfl rfl infoN ?_)
      | fail)
    refine (docEncode_any M w.heap.size n [x, y, z] w4 (HN.out.no F4.out) F4.out.size HSM.out).mono ?_
    rintro e w5 ⟨rfl, f5⟩
    have F5 := hid (F4.out.trans' f5); have HB5 := hid (HB4.out.fr f5 id)
    clear f5
    rw [HE.out, HER.out]
    go_wp2_with (first
      | ((with_reducible show wpList _ _ _ (⟨_, .load 24 _, _, _, _, _⟩ :: _) _ _); refine wpL_load rfl _ _ rfl w.heap.size 0 rfl [x, y, z] _ (HB5.out.range 0 _ rfl) rfl rfl infoN ?_)
      | fail)
    refine (right_any M w.heap.size n [x, y, z] w5 (HN.out.no F5.out) F5.out.size).mono ?_
    rintro e w6 ⟨rfl, f6⟩
    have F6 := hid (F5.out.trans' f6)
    clear f6
    rw [HER.out]
    go_wp2_with (first
      | ((with_reducible show wpList _ _ _ (⟨_, .binOp .eql 9 _ _ _, _, _, _, _⟩ :: _) _ _); refine wpL_valZ (by rfl) (.bool true) ((exec_eqS _ _ _ rfl E E rfl rfl _).trans (by simp)) ?_)
      | fail)
    go_ret
    exact ⟨rfl, F6.out⟩
end Go.Proofs.Ythnahoodgkeaiaa.BE
