/-
  The document's Encode.
-/
import Derived.Test.YthnahoodgkeaiaaBf5
import Derived.Test.YthnahoodgkeaiaaBeE
set_option linter.unusedVariables false
set_option linter.unusedSimpArgs false
namespace Go.Proofs.Ythnahoodgkeaiaa.BE
set_option maxRecDepth 100000
open Go.RowKit K

set_option maxHeartbeats 8000000 in
theorem docEncode_any (M N : Nat) (n : Nd) (cs : List Value) (w : World) (hn : NdAt M (Lo N) w n cs) (hN : N ≤ w.heap.size) (hsm : small 8 n) : Calls Try.prog 13 #[.agg cs.toArray] w fun e w' => e = .returned (.tuple #[.string (sb (encS n)), .int .i64 (errN n)]) ∧ Fr No w w' := by
  obtain ⟨x, y, z, hcs⟩ := box_kid cs hn.len
  subst hcs
  have HN := hid hn; have HNN := hid hN; have HSM := hid hsm
  obtain ⟨es, hes⟩ : ∃ es, encS n = es := ⟨_, rfl⟩
  obtain ⟨er, her⟩ : ∃ er, errN n = er := ⟨_, rfl⟩
  rw [hes, her]
  have HES := hid hes; have HER := hid her
  clear hn hN hsm hes her
  go_enter Try.func13, Try.ntmps13
  go_wp2_with (first
    | ((with_reducible show wpList _ _ _ (⟨_, .box 24 _, _, _, _, _⟩ :: _) _ _); refine wpL_box rfl _ _ rfl _ rfl [x, y, z] rfl ?_; intro w1 HB1 F1 HS1)
    | ((with_reducible show wpList _ _ _ (⟨_, .load 24 _, _, _, _, _⟩ :: _) _ _); refine wpL_load rfl _ _ rfl w.heap.size 0 rfl [x, y, z] _ (HB1.out.range 0 _ rfl) rfl rfl infoN ?_)
    | fail)
  refine (deep_any 8 M N n [x, y, z] w1 (Nat.le_refl _) (HN.out.no F1.out) (Nat.le_trans HNN.out F1.out.size)).mono ?_
  rintro e w2 ⟨rfl, f2⟩
  have F2 := hid (F1.out.trans' f2); have HB2 := hid (HB1.out.fr f2 id)
  clear f2
  cases hd : deep 8 n with
  | false =>
    have h1 : errN n = 91 := by unfold errN; rw [if_pos hd]
    have he : er = 91 := by rw [← HER.out]; exact h1
    have hs : es = [] := by rw [← HES.out]; unfold encS; rw [h1]; rfl
    have HE := hid he; have HS := hid hs
    clear hd h1 he hs
    go_wp2_with fail
    go_ret2
    rw [HE.out, HS.out]
    exact ⟨rfl, F2.out⟩
  | true =>
    have HD := hid hd
    clear hd
    go_wp2_with (first
      | ((with_reducible show wpList _ _ _ (⟨_, .load 24 _, _, _, _, _⟩ :: _) _ _); refine wpL_load rfl _ _ rfl w.heap.size 0 rfl [x, y, z] _ (HB2.out.range 0 _ rfl) rfl rfl infoN ?_)
      | fail)
    refine (shaped_any 8 M N n [x, y, z] w2 HD.out (HN.out.no F2.out) (Nat.le_trans HNN.out F2.out.size)).mono ?_
    rintro e w3 ⟨rfl, f3⟩
    have F3 := hid (F2.out.trans' f3); have HB3 := hid (HB2.out.fr f3 id)
    clear f3
    cases hsh : shaped 8 n with
    | false =>
      have h1 : errN n = 90 := by unfold errN; rw [if_neg (by rw [HD.out]; simp), if_pos hsh]
      have he : er = 90 := by rw [← HER.out]; exact h1
      have hs : es = [] := by rw [← HES.out]; unfold encS; rw [h1]; rfl
      have HE := hid he; have HS := hid hs
      clear hsh h1 he hs
      go_wp2_with fail
      go_ret2
      rw [HE.out, HS.out]
      exact ⟨rfl, F3.out⟩
    | true =>
      have HSH := hid hsh
      clear hsh
      go_wp2_with (first
        | ((with_reducible show wpList _ _ _ (⟨_, .load 24 _, _, _, _, _⟩ :: _) _ _); refine wpL_load rfl _ _ rfl w.heap.size 0 rfl [x, y, z] _ (HB3.out.range 0 _ rfl) rfl rfl infoN ?_)
        | fail)
      refine (bytes_any 8 M N n [x, y, z] w3 HD.out HSH.out HSM.out (HN.out.no F3.out) (Nat.le_trans HNN.out F3.out.size)).mono ?_
      rintro e w4 ⟨f4, ⟨hf, v, rfl, hr⟩ | ⟨hf, rfl⟩⟩
      · have F4 := hid (F3.out.trans' f4)
        have h1 : errN n = 0 := err_zero.2 ⟨HD.out, HSH.out, hf⟩
        have he : er = 0 := by rw [← HER.out]; exact h1
        have hs : enc 8 n = es := by rw [← HES.out]; unfold encS; rw [if_pos h1]
        rw [hs] at hr
        obtain ⟨va, vc, rfl⟩ := hr.form
        have HR := hid hr.bytes
        have HE := hid he
        obtain ⟨el, hel⟩ : ∃ el, es.length = el := ⟨_, rfl⟩
        rw [hel] at HR ⊢
        clear f4 hf h1 he hs hr hel
        go_wp2_with (first
          | ((with_reducible show wpList _ _ _ (⟨_, .convert _ 9 _, _, _, _, _⟩ :: _) _ _); refine wpL_stringS rfl _ rfl _ _ _ rfl HR.out ?_)
          | fail)
        go_ret2
        rw [HE.out]
        exact ⟨rfl, F4.out⟩
      · have F4 := hid (F3.out.trans' f4)
        have h1 : errN n = 2 := by unfold errN; rw [if_neg (by rw [HD.out]; simp), if_neg (by rw [HSH.out]; simp), if_pos hf]
        have he : er = 2 := by rw [← HER.out]; exact h1
        have hs : es = [] := by rw [← HES.out]; unfold encS; rw [h1]; rfl
        have HE := hid he; have HS := hid hs
        clear f4 hf h1 he hs
        go_wp2_with fail
        go_ret2
        rw [HE.out, HS.out]
        exact ⟨rfl, F4.out⟩
end Go.Proofs.Ythnahoodgkeaiaa.BE
