/-
  BerNumbers: numbers are read as they were written, by the fewest bytes.
-/
import Derived.Test.YthnahoodgkeaiaaBeW
import Derived.Test.YthnahoodgkeaiaaBf7
set_option linter.unusedVariables false
set_option linter.unusedSimpArgs false
namespace Go.Proofs.Ythnahoodgkeaiaa.BE
set_option maxRecDepth 100000
open Go.RowKit K

theorem num_back {s : B} (h : (numS s).2 = true) : intS (numS s).1 = s := by
  cases s with
  | nil => cases h
  | cons b r =>
    unfold numS at h ⊢
    simp only at h ⊢
    by_cases h4 : 4 < (b :: r).length
    · rw [if_pos h4] at h; cases h
    · rw [if_neg h4] at h ⊢
      by_cases hi : intS (joinI (sgn b) r) = b :: r
      · rw [if_pos hi]; exact hi
      · rw [if_neg hi] at h; cases h
theorem num_lim (s : B) : -9223372036854775808 ≤ (numS s).1 ∧ (numS s).1 ≤ 9223372036854775807 := by
  cases s with
  | nil => decide
  | cons b r =>
    unfold numS
    simp only
    by_cases h4 : 4 < (b :: r).length
    · rw [if_pos h4]; decide
    · rw [if_neg h4]
      by_cases hi : intS (joinI (sgn b) r) = b :: r
      · rw [if_pos hi]
        have hb := sgn_lim b
        have hl := join_lim r (sgn b) 128 (by omega) (by omega)
        show -9223372036854775808 ≤ joinI (sgn b) r ∧ joinI (sgn b) r ≤ 9223372036854775807
        simp only [List.length_cons] at h4
        match r, h4 with
        | [], _ => simp at hl; omega
        | [_], _ => simp at hl; omega
        | [_, _], _ => simp at hl; omega
        | [_, _, _], _ => simp at hl; omega
        | _ :: _ :: _ :: _ :: _, h4 => simp only [List.length_cons] at h4; omega
      · rw [if_neg hi]; decide
theorem pow7 : (128 : Int) * 256 ^ 7 = 9223372036854775808 := by decide
set_option maxHeartbeats 16000000 in
theorem berNumbers_walk (n : Int) (s : B) (w : World) (hn : -9223372036854775808 ≤ n ∧ n ≤ 9223372036854775807) (hs : s.length ≤ 140737488351232) : Calls Try.prog 8 #[.int .i64 n, .string (sb s)] w fun e w' => e = .returned (.bool true) ∧ Fr No w w' := by
  have HS := hid hs
  have hni := num_int hn
  have hil := intG_len 7 n
  obtain ⟨I, hI⟩ : ∃ I, intS n = I := ⟨_, rfl⟩
  have hI' : intG 7 n = I := hI
  rw [hI] at hni
  rw [hI'] at hil
  have HI := hid hI'; have HNI := hid hni
  obtain ⟨il, hile⟩ : ∃ il, I.length = il := ⟨_, rfl⟩
  have hsz : ((sb I).size : Int) = il := by rw [sb_size, hile]
  rw [hile] at hil
  have HIL := hid hile
  obtain ⟨X, hX⟩ : ∃ X, numS s = X := ⟨_, rfl⟩
  obtain ⟨x, f⟩ := X
  have HX := hid hX
  have hxl := num_lim s
  have hxb := num_back (s := s)
  rw [hX] at hxl hxb
  have HXL := hid hxl; have HXB := hid hxb
  have hiL1 : (1 : Int) ≤ il := by omega
  have hiL2 : (il : Int) ≤ 8 := by omega
  clear hs hni hI hI' hile hX hxl hxb
  go_enter Try.func8, Try.ntmps8
  go_wp2_with fail
  refine (awake_any w).mono ?_
  rintro e w2 ⟨rfl, f2⟩
  have F2 := hid f2
  clear f2
  go_wp2_with fail
  refine (int_any 7 n w2 (Nat.le_refl _) (by rw [pow7]; omega) (by rw [pow7]; omega) hn).mono ?_
  rintro e w3 ⟨rfl, f3⟩
  have F3 := hid (F2.out.trans' f3)
  clear f3
  rw [HI.out]
  go_wp2_with fail
  refine (number_any I w3 (by rw [HIL.out]; omega)).mono ?_
  rintro e w4 ⟨rfl, f4⟩
  have F4 := hid (F3.out.trans' f4)
  clear f4
  rw [HNI.out]
  have HREST : Hid (∀ w5, Fr No w w5 → True) := hid (fun _ _ => trivial)
  by_cases hsm : -2147483648 ≤ n ∧ n < 2147483648
  · rw [if_pos hsm]
    have h1 := hsm.1; have h2 := hsm.2
    show (match Ending.returned (Value.tuple #[.int .i64 n, .bool true]), w4 with | _, _ => _)
    go_wp2_with fail
    refine (number_any s w4 (by have := HS.out; omega)).mono ?_
    rintro e w5 ⟨rfl, f5⟩
    have F5 := hid (F4.out.trans' f5)
    clear f5
    rw [HX.out]
    show (match Ending.returned (Value.tuple #[.int .i64 x, .bool f]), w5 with | _, _ => _)
    go_wp2_with fail
    refine (docNumber_any s w5 (by have := HS.out; omega)).mono ?_
    rintro e w6 ⟨rfl, f6⟩
    have F6 := hid (F5.out.trans' f6)
    clear f6
    rw [HX.out]
    show (match Ending.returned (Value.tuple #[.int .i64 x, .bool f]), w6 with | _, _ => _)
    cases f with
    | true =>
      go_wp2_with fail
      refine (int_any 7 x w6 (Nat.le_refl _) (by rw [pow7]; have := HXL.out; omega) (by rw [pow7]; have := HXL.out; omega) HXL.out).mono ?_
      rintro e w7 ⟨rfl, f7⟩
      have F7 := hid (F6.out.trans' f7)
      clear f7
      have hxs : intG 7 x = s := HXB.out (by trivial)
      rw [hxs]
      go_wp2_with (first
        | ((with_reducible show wpList _ _ _ (⟨_, .binOp .eql 9 _ _ _, _, _, _, _⟩ :: _) _ _); refine wpL_valZ (by rfl) (.bool true) ((exec_eqS _ _ _ rfl s s rfl rfl _).trans (by simp)) ?_)
        | fail)
      go_ret
      exact ⟨rfl, F7.out⟩
    | false =>
      go_wp2_with fail
      refine (int_any 7 x w6 (Nat.le_refl _) (by rw [pow7]; have := HXL.out; omega) (by rw [pow7]; have := HXL.out; omega) HXL.out).mono ?_
      rintro e w7 ⟨rfl, f7⟩
      have F7 := hid (F6.out.trans' f7)
      clear f7
      go_wp2_with fail
      go_ret
      exact ⟨rfl, F7.out⟩
  · rw [if_neg hsm]
    show (match Ending.returned (Value.tuple #[.int .i64 0, .bool false]), w4 with | _, _ => _)
    by_cases h1 : -2147483648 ≤ n
    · have h2 : ¬ n < 2147483648 := fun h => hsm ⟨h1, h⟩
      clear hsm
      go_wp2_with fail
      refine (number_any s w4 (by have := HS.out; omega)).mono ?_
      rintro e w5 ⟨rfl, f5⟩
      have F5 := hid (F4.out.trans' f5)
      clear f5
      rw [HX.out]
      show (match Ending.returned (Value.tuple #[.int .i64 x, .bool f]), w5 with | _, _ => _)
      go_wp2_with fail
      refine (docNumber_any s w5 (by have := HS.out; omega)).mono ?_
      rintro e w6 ⟨rfl, f6⟩
      have F6 := hid (F5.out.trans' f6)
      clear f6
      rw [HX.out]
      show (match Ending.returned (Value.tuple #[.int .i64 x, .bool f]), w6 with | _, _ => _)
      cases f with
      | true =>
        go_wp2_with fail
        refine (int_any 7 x w6 (Nat.le_refl _) (by rw [pow7]; have := HXL.out; omega) (by rw [pow7]; have := HXL.out; omega) HXL.out).mono ?_
        rintro e w7 ⟨rfl, f7⟩
        have F7 := hid (F6.out.trans' f7)
        clear f7
        have hxs : intG 7 x = s := HXB.out (by trivial)
        rw [hxs]
        go_wp2_with (first
          | ((with_reducible show wpList _ _ _ (⟨_, .binOp .eql 9 _ _ _, _, _, _, _⟩ :: _) _ _); refine wpL_valZ (by rfl) (.bool true) ((exec_eqS _ _ _ rfl s s rfl rfl _).trans (by simp)) ?_)
          | fail)
        go_ret
        exact ⟨rfl, F7.out⟩
      | false =>
        go_wp2_with fail
        refine (int_any 7 x w6 (Nat.le_refl _) (by rw [pow7]; have := HXL.out; omega) (by rw [pow7]; have := HXL.out; omega) HXL.out).mono ?_
        rintro e w7 ⟨rfl, f7⟩
        have F7 := hid (F6.out.trans' f7)
        clear f7
        go_wp2_with fail
        go_ret
        exact ⟨rfl, F7.out⟩
    · clear hsm
      go_wp2_with fail
      refine (number_any s w4 (by have := HS.out; omega)).mono ?_
      rintro e w5 ⟨rfl, f5⟩
      have F5 := hid (F4.out.trans' f5)
      clear f5
      rw [HX.out]
      show (match Ending.returned (Value.tuple #[.int .i64 x, .bool f]), w5 with | _, _ => _)
      go_wp2_with fail
      refine (docNumber_any s w5 (by have := HS.out; omega)).mono ?_
      rintro e w6 ⟨rfl, f6⟩
      have F6 := hid (F5.out.trans' f6)
      clear f6
      rw [HX.out]
      show (match Ending.returned (Value.tuple #[.int .i64 x, .bool f]), w6 with | _, _ => _)
      cases f with
      | true =>
        go_wp2_with fail
        refine (int_any 7 x w6 (Nat.le_refl _) (by rw [pow7]; have := HXL.out; omega) (by rw [pow7]; have := HXL.out; omega) HXL.out).mono ?_
        rintro e w7 ⟨rfl, f7⟩
        have F7 := hid (F6.out.trans' f7)
        clear f7
        have hxs : intG 7 x = s := HXB.out (by trivial)
        rw [hxs]
        go_wp2_with (first
          | ((with_reducible show wpList _ _ _ (⟨_, .binOp .eql 9 _ _ _, _, _, _, _⟩ :: _) _ _); refine wpL_valZ (by rfl) (.bool true) ((exec_eqS _ _ _ rfl s s rfl rfl _).trans (by simp)) ?_)
          | fail)
        go_ret
        exact ⟨rfl, F7.out⟩
      | false =>
        go_wp2_with fail
        refine (int_any 7 x w6 (Nat.le_refl _) (by rw [pow7]; have := HXL.out; omega) (by rw [pow7]; have := HXL.out; omega) HXL.out).mono ?_
        rintro e w7 ⟨rfl, f7⟩
        have F7 := hid (F6.out.trans' f7)
        clear f7
        go_wp2_with fail
        go_ret
        exact ⟨rfl, F7.out⟩
end Go.Proofs.Ythnahoodgkeaiaa.BE
