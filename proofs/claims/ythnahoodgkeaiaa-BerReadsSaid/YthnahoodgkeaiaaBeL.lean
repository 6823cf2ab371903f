/-
  Package ber: Number.
-/
import Derived.Test.YthnahoodgkeaiaaBeJ
set_option linter.unusedVariables false
set_option linter.unusedSimpArgs false
namespace Go.Proofs.Ythnahoodgkeaiaa.BE
set_option maxRecDepth 100000
open Go.RowKit K

set_option maxHeartbeats 8000000 in
theorem number_any (s : B) (w : World) (hs : s.length ≤ 281474976710656) : Calls Try.prog 21 #[.string (sb s)] w fun e w' => e = .returned (.tuple #[.int .i64 (numS s).1, .bool (numS s).2]) ∧ Fr No w w' := by
  match s, hs with
  | [], _ =>
    have hsz : ((sb []).size : Int) = 0 := by rw [sb_size]; rfl
    obtain ⟨q, hq⟩ : ∃ q, sb [] = q := ⟨_, rfl⟩
    rw [hq] at hsz ⊢
    clear hq
    go_enter Try.func21, Try.ntmps21
    go_wp2_with fail
    go_ret2
    exact ⟨rfl, Fr.refl _ _⟩
  | b :: r, hs =>
    have hsz : ((sb (b :: r)).size : Int) = ((b :: r).length : Int) := by rw [sb_size]
    obtain ⟨n, hn⟩ : ∃ n, (b :: r).length = n := ⟨_, rfl⟩
    have hn0 : n = r.length + 1 := by rw [← hn]; rfl
    obtain ⟨S, hS⟩ : ∃ S, b :: r = S := ⟨_, rfl⟩
    have hnum : numS (b :: r) = if 4 < n then (0, false) else if intS (joinI (sgn b) r) = S then (joinI (sgn b) r, true) else (0, false) := by
      rw [← hn, ← hS]; rfl
    have HS := hid hS
    have h0 : S[0]? = some b := by rw [← hS]; rfl
    have hd1 : S.drop 1 = r := by rw [← hS]; rfl
    rw [hn] at hsz hs
    rw [hS] at hsz hn hnum ⊢
    obtain ⟨R, hR⟩ : ∃ R, numS S = R := ⟨_, rfl⟩
    rw [hR] at hnum ⊢
    have HR := hid hnum; have H0 := hid h0; have HD1 := hid hd1; have HN := hid hn; have HN0 := hid hn0
    have hni : (1 : Int) ≤ n := by omega
    have hni2 : (n : Int) ≤ 281474976710656 := by omega
    clear hS hnum h0 hd1 hn hR hn0
    by_cases h4 : 4 < n
    · have h4i : (4 : Int) < n := by omega
      have hr : R = (0, false) := by rw [HR.out, if_pos h4]
      subst hr
      go_enter Try.func21, Try.ntmps21
      go_wp2_with fail
      go_ret2
      exact ⟨rfl, Fr.refl _ _⟩
    · have h4i : ¬ (4 : Int) < n := by omega
      have hr : R = if intS (joinI (sgn b) r) = S then (joinI (sgn b) r, true) else (0, false) := by rw [HR.out, if_neg h4]
      have hrl : r.length ≤ 3 := by have := HN0.out; omega
      have HRL := hid hrl
      have HRR := hid hr
      have hlim := join_lim r (sgn b) 128 (by have := sgn_lim b; omega) (by have := sgn_lim b; omega)
      have hp : (256 : Int) ^ r.length ≤ 16777216 := by
        match r, hrl with
        | [], _ => decide
        | [_], _ => simp
        | [_, _], _ => simp
        | [_, _, _], _ => simp
      have HJB := hid (show -2147483648 ≤ joinI (sgn b) r ∧ joinI (sgn b) r < 2147483648 by omega)
      clear hr hrl hlim hp HR
      obtain ⟨J, hJ⟩ : ∃ J, joinI (sgn b) r = J := ⟨_, rfl⟩
      rw [hJ] at HRR HJB
      have HJ := hid hJ
      obtain ⟨bn, hbn⟩ : ∃ bn, b.toNat = bn := ⟨_, rfl⟩
      have hbl := lt256 b
      rw [hbn] at hbl
      have HBN := hid hbn
      clear hJ hbn
      go_enter Try.func21, Try.ntmps21
      go_wp2_with fail
      have hold : Facts.hold [] w.drew := Facts.nil_hold _
      refine wp_region_noPanic ?_
      refine wpD_region hold (by kernel_rfl) 7 rfl ?_
      (refine wpD_plain 0 (v := ?_) rfl (by kernel_rfl) (by kernel_rfl) (by kernel_rfl) (fun _ _ _ h => h) (by rfl) ?_ (by assumption) ?_; rotate_left; (intro _w; go_simp; try with_reducible rfl); simp only [Act.put, List.setIfInBounds_toArray, List.set_cons_zero, List.set_cons_succ])
      (refine wpD_plain 1 (v := (.int .u8 (bn : Int))) rfl (by kernel_rfl) (by kernel_rfl) (by kernel_rfl) (fun _ _ _ h => h) (by rfl) ?_ (by assumption) ?_; (intro _w; rw [← HBN.out]; exact exec_idx _ _ rfl S 0 b H0.out _ rfl rfl rfl _w); simp only [Act.put, List.setIfInBounds_toArray, List.set_cons_zero, List.set_cons_succ])
      (refine wpD_plain 3 (v := ?_) rfl (by kernel_rfl) (by kernel_rfl) (by kernel_rfl) (fun _ _ _ h => h) (by rfl) ?_ (by assumption) ?_; rotate_left; (intro _w; go_simp; try with_reducible rfl); simp only [Act.put, List.setIfInBounds_toArray, List.set_cons_zero, List.set_cons_succ])
      (refine wpD_plain 4 (v := (.string (sb r))) rfl (by kernel_rfl) (by kernel_rfl) (by kernel_rfl) (fun _ _ _ h => h) (by rfl) ?_ (by assumption) ?_; (intro _w; exact exec_from _ _ rfl S 1 rfl rfl (by rw [HN.out]; omega) _ HD1.out _w); simp only [Act.put, List.setIfInBounds_toArray, List.set_cons_zero, List.set_cons_succ])
      clear hold
      refine wpD_only 2 [] rfl (by kernel_rfl) (by kernel_rfl) (by rfl) (fun K2 hK2 => ?_)
      refine wp_call (.func 36) _ _ rfl 36 [] rfl (fun vs w => by kernel_rfl) [.int .u8 (bn : Int)] (by rfl) ?_
      have hsg := signed_any b w.drew
      rw [HBN.out] at hsg
      refine hsg.mono ?_
      clear hsg
      rintro e w1 ⟨rfl, rfl⟩
      refine ⟨_, rfl, hK2 _ _ (Facts.nil_hold _) ?_⟩
      clear hK2 K2
      simp only [Act.put, List.setIfInBounds_toArray, List.set_cons_zero, List.set_cons_succ]
      refine wpD_only 5 [] rfl (by kernel_rfl) (by kernel_rfl) (by rfl) (fun K5 hK5 => ?_)
      refine wp_call (.func 37) _ _ rfl 37 [] rfl (fun vs w => by kernel_rfl) [.int .i64 (sgn b), .string (sb r)] (by rfl) ?_
      refine (joined_any (sgn b) r (sgn_lim b) HRL.out w.drew).mono ?_
      rintro e w1 ⟨rfl, rfl⟩
      rw [HJ.out]
      refine ⟨_, rfl, hK5 _ _ (Facts.nil_hold _) ?_⟩
      clear hK5 K5
      simp only [Act.put, List.setIfInBounds_toArray, List.set_cons_zero, List.set_cons_succ]
      have hold : Facts.hold [] w.drew := Facts.nil_hold _
      (refine wpD_plain 6 (v := ?_) rfl (by kernel_rfl) (by kernel_rfl) (by kernel_rfl) (fun _ _ _ h => h) (by rfl) ?_ (by assumption) ?_; rotate_left; (intro _w; go_simp; try with_reducible rfl); simp only [Act.put, List.setIfInBounds_toArray, List.set_cons_zero, List.set_cons_succ])
      clear hold
      refine wpD_done (by kernel_rfl) (NoPanic.normal ?_) _
      have hjb : -9223372036854775808 ≤ J ∧ J ≤ 9223372036854775807 := by have := HJB.out; omega
      go_wp2_with fail
      refine (int_any 7 J _ (Nat.le_refl _) (by have : (128 : Int) * 256 ^ 7 = 9223372036854775808 := by decide
                                                omega) (by have : (128 : Int) * 256 ^ 7 = 9223372036854775808 := by decide
                                                           omega) hjb).mono ?_
      rintro e w2 ⟨rfl, f2⟩
      have HF2 := hid ((Fr.refl No w).drew.trans' f2)
      obtain ⟨I, hI⟩ : ∃ I, intG 7 J = I := ⟨_, rfl⟩
      rw [hI]
      have HI : Hid (intS J = I) := hid hI
      clear f2 hI
      by_cases he : I = S
      · have HE := hid he
        have hr : R = (J, true) := by rw [HRR.out, if_pos (HI.out.trans he)]
        subst hr
        have hne : (!decide (I = S)) = false := by rw [decide_eq_true he]; rfl
        have HNE := hid hne
        clear he hne
        go_wp2_with ((with_reducible show wpList _ _ _ (⟨_, .binOp .neq 9 _ _ _, _, _, _, _⟩ :: _) _ _); refine wpL_valZ rfl (.bool false) (by rw [← HNE.out]; exact exec_neS _ _ _ rfl I S rfl rfl _) ?_)
        go_ret2
        exact ⟨rfl, HF2.out⟩
      · have HE := hid he
        have hr : R = (0, false) := by rw [HRR.out, if_neg (fun h => he (HI.out.symm.trans h))]
        subst hr
        have hne : (!decide (I = S)) = true := by rw [decide_eq_false he]; rfl
        have HNE := hid hne
        clear he hne
        go_wp2_with ((with_reducible show wpList _ _ _ (⟨_, .binOp .neq 9 _ _ _, _, _, _, _⟩ :: _) _ _); refine wpL_valZ rfl (.bool true) (by rw [← HNE.out]; exact exec_neS _ _ _ rfl I S rfl rfl _) ?_)
        go_ret2
        exact ⟨rfl, HF2.out⟩
end Go.Proofs.Ythnahoodgkeaiaa.BE
