/-
  Package ber: the head of an element is read.
-/
import Derived.Test.YtoikiokcpakokaaBeX
set_option linter.unusedVariables false
set_option linter.unusedSimpArgs false
namespace Go.Proofs.Ytoikiokcpakokaa.BE
set_option maxRecDepth 100000
open Go.RowKit K

theorem sb_empty' (l : B) : (sb l).toList.isEmpty = l.isEmpty := by rw [ByteArray.toList_eq, sb_list]
/-- What readHead leaves. -/
def Heads (s : B) (w : World) (e : Ending) (w' : World) : Prop := Fr No w w' ∧ match hdS s with
  | .error k => e = .panicked [fl k]
  | .ok (t, c, h) => e = .returned (.tuple #[.int .i64 (t : Int), .int .i64 (c : Int), .int .i64 (h : Int)])
/-- A head by its tag, the next byte and those behind. -/
def hdL (tn ln : Nat) (q : B) : Except Nat (Nat × Nat × Nat) :=
  if ln < 128 then .ok (tn, ln, 2)
  else if ln = 129 then match q with
    | [] => .error 92
    | a :: _ => if a.toNat < 128 then .error 90 else .ok (tn, a.toNat, 3)
  else if ln = 130 then match q with
    | a :: b :: _ => if 256 * a.toNat + b.toNat < 256 then .error 90 else if 4000 < 256 * a.toNat + b.toNat then .error 2 else .ok (tn, 256 * a.toNat + b.toNat, 4)
    | _ => .error 92
  else .error 90
theorem hdS_two {t l : UInt8} (q : B) (ht : tagB t.toNat = true) : hdS (t :: l :: q) = hdL t.toNat l.toNat q := by
  simp only [hdS]
  rw [if_neg (by rw [ht]; simp)]
  rfl
set_option maxHeartbeats 16000000 in
theorem readHead_any (s : B) (hs : s.length ≤ 281474976710656) (w : World) : Calls Try.prog 38 #[.string (sb s)] w (Heads s w) := by
  match s, hs with
  | [], hs =>
    have hse : (sb []).toList.isEmpty = true := by rw [sb_empty']; rfl
    obtain ⟨q, hq⟩ : ∃ q, sb [] = q := ⟨_, rfl⟩
    rw [hq] at hse ⊢
    go_enter Try.func38, Try.ntmps38
    go_wp2_with fail
    refine (must_any false 92 w).mono ?_
    rintro e w1 ⟨rfl, ⟨h, _⟩ | ⟨_, rfl⟩⟩
    · cases h
    · exact ⟨rfl, Fr.refl _ _, rfl⟩
  | t :: r, hs =>
    have hse : (sb (t :: r)).toList.isEmpty = false := by rw [sb_empty']; rfl
    have hsz := sb_size (t :: r)
    obtain ⟨n, hn⟩ : ∃ n, (t :: r).length = n := ⟨_, rfl⟩
    have hnr : n = r.length + 1 := by rw [← hn]; rfl
    rw [hn] at hs hsz
    have hszi : ((sb (t :: r)).size : Int) = n := by omega
    have h0 : (t :: r)[0]? = some t := rfl
    obtain ⟨S, hS⟩ : ∃ S, t :: r = S := ⟨_, rfl⟩
    have HSS := hid hS
    rw [hS] at hse hszi h0 hn ⊢
    have H0 := hid h0; have HNN := hid hn; have HNR := hid hnr
    obtain ⟨tn, htn⟩ : ∃ tn, t.toNat = tn := ⟨_, rfl⟩
    have htl := lt256 t
    rw [htn] at htl
    have HTN := hid htn
    clear hS h0 hn hsz hnr htn
    go_enter Try.func38, Try.ntmps38
    go_wp2_with fail
    refine (must_any true 92 w).mono ?_
    rintro e w1 ⟨rfl, ⟨_, rfl⟩ | ⟨h, _⟩⟩
    rotate_left
    · cases h
    go_wp2_with ((with_reducible show wpList _ _ _ (⟨_, .index 9 _ _, _, _, _, _⟩ :: _) _ _); refine wpL_valZ rfl (.int .u8 (tn : Int)) (by rw [← HTN.out]; exact exec_idx _ _ rfl S 0 t H0.out _ rfl rfl rfl _) ?_)
    refine (isTag_any (tn : Int) w1).mono ?_
    rintro e w2 ⟨rfl, rfl⟩
    go_wp2_with fail
    refine (must_any (tagB tn) 90 w2).mono ?_
    rintro e w3 ⟨rfl, ⟨ht, rfl⟩ | ⟨ht, rfl⟩⟩
    rotate_left
    · refine ⟨rfl, Fr.refl _ _, ?_⟩
      rw [← HSS.out]
      simp only [hdS]
      rw [HTN.out, if_pos ht]
    have HT := hid ht
    clear ht hse
    by_cases hn1 : n = 1
    · obtain rfl : r = [] := List.eq_nil_of_length_eq_zero (by have := HNR.out; omega)
      subst hn1
      have hsz1 : ((sb S).size : Int) = 1 := hszi
      go_wp2_with fail
      refine (must_any false 92 w3).mono ?_
      rintro e w4 ⟨rfl, ⟨h, _⟩ | ⟨_, rfl⟩⟩
      · cases h
      refine ⟨rfl, Fr.refl _ _, ?_⟩
      rw [← HSS.out]
      simp only [hdS]
      rw [HTN.out, if_neg (by rw [HT.out]; simp)]
    obtain ⟨l, q, rfl⟩ : ∃ l q, r = l :: q := by
      cases r with
      | nil => exact absurd HNR.out (by simpa using hn1)
      | cons l q => exact ⟨l, q, rfl⟩
    have hni : (1 : Int) < n := by have := HNR.out; simp at this; omega
    go_wp2_with fail
    refine (must_any true 92 w3).mono ?_
    rintro e w4 ⟨rfl, ⟨_, rfl⟩ | ⟨h, _⟩⟩
    rotate_left
    · cases h
    have H1 : Hid (S[1]? = some l) := hid (by rw [← HSS.out]; rfl)
    obtain ⟨ln, hln⟩ : ∃ ln, l.toNat = ln := ⟨_, rfl⟩
    have hll := lt256 l
    rw [hln] at hll
    have HLN := hid hln
    clear hn1 hln
    have HDS : Hid (hdS S = hdL tn ln q) := hid (by
      rw [← HSS.out, ← HTN.out, ← HLN.out]
      exact hdS_two q (by rw [HTN.out]; exact HT.out))
    by_cases hl8 : ln < 128
    · have hlt : (ln : Int) < 128 := by omega
      go_wp2_with ((with_reducible show wpList _ _ _ (⟨_, .index 9 _ _, _, _, _, _⟩ :: _) _ _); refine wpL_valZ rfl (.int .u8 (ln : Int)) (by rw [← HLN.out]; exact exec_idx _ _ rfl S 1 l H1.out _ rfl rfl rfl _) ?_)
      refine (must_any _ 90 w4).mono ?_
      rintro e w5 ⟨rfl, ⟨_, rfl⟩ | ⟨hb, rfl⟩⟩
      rotate_left
      · exfalso
        simp at hb
        omega
      go_wp2_with fail
      have hold : Facts.hold [] w5.drew := Facts.nil_hold _
      refine wpD_region hold (by kernel_rfl) 7 rfl ?_
      (refine wpD_plain 0 (v := ?_) rfl (by kernel_rfl) (by kernel_rfl) (by kernel_rfl) (fun _ _ _ h => h) (by rfl) ?_ (by assumption) ?_; rotate_left; (intro _w; go_simp; try with_reducible rfl); simp only [Act.put, List.setIfInBounds_toArray, List.set_cons_zero, List.set_cons_succ])
      (refine wpD_plain 1 (v := ?_) rfl (by kernel_rfl) (by kernel_rfl) (by kernel_rfl) (fun _ _ _ h => h) (by rfl) ?_ (by assumption) ?_; rotate_left; (intro _w; go_simp; try with_reducible rfl); simp only [Act.put, List.setIfInBounds_toArray, List.set_cons_zero, List.set_cons_succ])
      (refine wpD_plain 3 (v := ?_) rfl (by kernel_rfl) (by kernel_rfl) (by kernel_rfl) (fun _ _ _ h => h) (by rfl) ?_ (by assumption) ?_; rotate_left; (intro _w; go_simp; try with_reducible rfl); simp only [Act.put, List.setIfInBounds_toArray, List.set_cons_zero, List.set_cons_succ])
      (refine wpD_plain 2 (v := (.string (sb ([l])))) rfl (by kernel_rfl) (by kernel_rfl) (by kernel_rfl) (fun _ _ _ h => h) (by rfl) ?_ (by assumption) ?_; (intro _w; exact exec_two _ _ _ rfl S 1 2 rfl rfl rfl (by omega) (by rw [HNN.out]; omega) _ (by rw [← HSS.out]; rfl) _w); simp only [Act.put, List.setIfInBounds_toArray, List.set_cons_zero, List.set_cons_succ])
      clear hold
      refine wpD_only 4 [] rfl (by kernel_rfl) (by kernel_rfl) (by rfl) (fun K4 hK4 => ?_)
      refine wp_call (.func 27) _ _ rfl 27 [] rfl (fun vs w => by kernel_rfl) [.int .i64 (ln : Int)] (by rfl) ?_
      refine (length_any ln (by omega) w5.drew).mono ?_
      rintro e w7 ⟨rfl, f7⟩
      have hf7 : Fr No w5 w7 := (Fr.refl No w5).drew.trans' f7
      refine ⟨_, rfl, hK4 _ _ (Facts.nil_hold _) ?_⟩
      clear hK4 K4
      simp only [Act.put, List.setIfInBounds_toArray, List.set_cons_zero, List.set_cons_succ]
      have hold : Facts.hold [] w7 := Facts.nil_hold _
      (refine wpD_plain 5 (v := (.bool (decide ([l] = lenB ln)))) rfl (by kernel_rfl) (by kernel_rfl) (by kernel_rfl) (fun _ _ _ h => h) (by rfl) ?_ (by assumption) ?_; (intro _w; exact exec_eqS _ _ _ rfl _ _ rfl rfl _w); simp only [Act.put, List.setIfInBounds_toArray, List.set_cons_zero, List.set_cons_succ])
      clear hold
      refine wpD_only 6 [] rfl (by kernel_rfl) (by kernel_rfl) (by rfl) (fun K6 hK6 => ?_)
      refine wp_callP (.func 36) _ _ rfl 36 [] rfl (fun vs w => by kernel_rfl) [.bool (decide ([l] = lenB ln)), .int .i64 90] (by rfl) ?_
      refine (must_any _ 90 w7).mono ?_
      rintro e w8 ⟨rfl, ⟨hb, rfl⟩ | ⟨hb, rfl⟩⟩
      rotate_left
      · refine .inr ⟨_, rfl, rfl, hf7, ?_⟩
        have e : lenB ln = [l] := by unfold lenB; rw [if_pos hl8, ← HLN.out, ofNat_toNat]
        rw [e] at hb
        simp at hb
      refine .inl ⟨_, rfl, hK6 _ _ (Facts.nil_hold _) ?_⟩
      clear hK6 K6
      simp only [Act.put, List.setIfInBounds_toArray, List.set_cons_zero, List.set_cons_succ]
      refine wpD_done (by kernel_rfl) ?_ _
      have HBB := hid (of_decide_eq_true hb)
      clear hb
      go_wp2_with fail
      refine (must_any _ 2 w8).mono ?_
      rintro e w9 ⟨rfl, ⟨hb, rfl⟩ | ⟨hb, rfl⟩⟩
      rotate_left
      · refine ⟨rfl, hf7, ?_⟩
        have h := of_decide_eq_false hb
        omega
      have HB4 := hid (of_decide_eq_true hb)
      clear hb
      go_wp2_with fail
      refine ret_three rfl rfl ⟨hf7, ?_⟩
      rw [HDS.out]
      simp only [hdL]
      rw [if_pos hl8]
      rfl
    · by_cases hlb : ln = 129 ∨ ln = 130
      · have hln : 129 ≤ ln ∧ ln ≤ 130 := by omega
        have hlt : ¬ (ln : Int) = 128 := by omega
        have hlt2 : (ln : Int) ≤ 130 := by omega
        have hlt3 : (128 : Int) < ln := by omega
        go_wp2_with ((with_reducible show wpList _ _ _ (⟨_, .index 9 _ _, _, _, _, _⟩ :: _) _ _); refine wpL_valZ rfl (.int .u8 (ln : Int)) (by rw [← HLN.out]; exact exec_idx _ _ rfl S 1 l H1.out _ rfl rfl rfl _) ?_)
        refine (must_any _ 90 w4).mono ?_
        rintro e w5 ⟨rfl, ⟨_, rfl⟩ | ⟨hb, rfl⟩⟩
        rotate_left
        · exfalso
          simp at hb
          omega
        have hhd : (2 : Int) + ((ln : Int) - 128) = ((ln - 126 : Nat) : Int) := by omega
        obtain ⟨h, hh⟩ : ∃ h, ln - 126 = h := ⟨_, rfl⟩
        rw [hh] at hhd
        have hh3 : 3 ≤ h ∧ h ≤ 4 := by omega
        have HH := hid hh
        have HHD := hid hhd
        clear hh hhd
        go_wp2_with fail
        rw [HHD.out]
        refine (must_any _ 92 w5).mono ?_
        rintro e w6 ⟨rfl, ⟨hb, rfl⟩ | ⟨hb, rfl⟩⟩
        rotate_left
        · have hlt9 : n < h := by have := of_decide_eq_false hb; omega
          refine ⟨rfl, Fr.refl _ _, ?_⟩
          rw [HDS.out]
          unfold hdL
          rw [if_neg hl8]
          have h1 := HNR.out
          have h2 := HH.out
          by_cases he : ln = 129
          · rw [if_pos he]
            cases q with
            | nil => rfl
            | cons a q' => simp at h1; omega
          · rw [if_neg he, if_pos (by omega)]
            match q, h1 with
            | [], _ => rfl
            | [_], _ => rfl
            | a :: b :: q', h1 => simp at h1; omega
        have hnh : h ≤ n := by have := of_decide_eq_true hb; omega
        have HNH := hid hnh
        clear hb
        rcases hlb with hlb | hlb
        · have HE := hid hlb
          clear hlb
          obtain ⟨a, q', rfl⟩ : ∃ a q', q = a :: q' := by
            have h1 := HNR.out
            have h2 := HH.out
            have h3 := HE.out
            cases q with
            | nil => simp at h1; omega
            | cons a q' => exact ⟨a, q', rfl⟩
          have hj : joinI 0 [a] = ((a.toNat : Nat) : Int) := by simp [joinI]
          have hal := lt256 a
          obtain ⟨cn, hcn⟩ : ∃ cn, a.toNat = cn := ⟨_, rfl⟩
          have hcl : cn ≤ 65535 := by omega
          have hcli : (cn : Int) ≤ 65535 := by omega
          rw [hcn] at hj
          have HCN := hid hcn
          have HJ := hid hj
          have h34 : h = 3 := by have := HH.out; have := HE.out; omega
          subst h34
          clear hcn hj
          go_wp2_with ((with_reducible show wpList _ _ _ (⟨_, .slice 9 _ _ _ _, _, _, _, _⟩ :: _) _ _); refine wpL_valZ rfl (.string (sb [a])) (exec_two _ _ _ rfl S 2 3 rfl rfl (by first | rfl | (show Value.int .i64 _ = _; rw [HHD.out])) (by omega) (by rw [HNN.out]; omega) _ (by rw [← HSS.out]; rfl) _) ?_)
          refine (joined_any 0 [a] (by omega) (by simp) w6).mono ?_
          rintro e w10 ⟨rfl, rfl⟩
          rw [HJ.out]
          go_wp2_with fail
          have hold : Facts.hold [] w10.drew := Facts.nil_hold _
          refine wpD_region hold (by kernel_rfl) 7 rfl ?_
          (refine wpD_plain 0 (v := ?_) rfl (by kernel_rfl) (by kernel_rfl) (by kernel_rfl) (fun _ _ _ h => h) (by rfl) ?_ (by assumption) ?_; rotate_left; (intro _w; go_simp; try with_reducible rfl); simp only [Act.put, List.setIfInBounds_toArray, List.set_cons_zero, List.set_cons_succ])
          (refine wpD_plain 1 (v := ?_) rfl (by kernel_rfl) (by kernel_rfl) (by kernel_rfl) (fun _ _ _ h => h) (by rfl) ?_ (by assumption) ?_; rotate_left; (intro _w; go_simp; try with_reducible rfl); simp only [Act.put, List.setIfInBounds_toArray, List.set_cons_zero, List.set_cons_succ])
          (refine wpD_plain 3 (v := ?_) rfl (by kernel_rfl) (by kernel_rfl) (by kernel_rfl) (fun _ _ _ h => h) (by rfl) ?_ (by assumption) ?_; rotate_left; (intro _w; go_simp; try with_reducible rfl); simp only [Act.put, List.setIfInBounds_toArray, List.set_cons_zero, List.set_cons_succ])
          (refine wpD_plain 2 (v := (.string (sb (l :: [a])))) rfl (by kernel_rfl) (by kernel_rfl) (by kernel_rfl) (fun _ _ _ h => h) (by rfl) ?_ (by assumption) ?_; (intro _w; exact exec_two _ _ _ rfl S 1 3 rfl rfl rfl (by omega) (by rw [HNN.out]; omega) _ (by rw [← HSS.out]; rfl) _w); simp only [Act.put, List.setIfInBounds_toArray, List.set_cons_zero, List.set_cons_succ])
          clear hold
          refine wpD_only 4 [] rfl (by kernel_rfl) (by kernel_rfl) (by rfl) (fun K4 hK4 => ?_)
          refine wp_call (.func 27) _ _ rfl 27 [] rfl (fun vs w => by kernel_rfl) [.int .i64 (cn : Int)] (by rfl) ?_
          refine (length_any cn (by omega) w10.drew).mono ?_
          rintro e w7 ⟨rfl, f7⟩
          have hf7 : Fr No w10 w7 := (Fr.refl No w10).drew.trans' f7
          refine ⟨_, rfl, hK4 _ _ (Facts.nil_hold _) ?_⟩
          clear hK4 K4
          simp only [Act.put, List.setIfInBounds_toArray, List.set_cons_zero, List.set_cons_succ]
          have hold : Facts.hold [] w7 := Facts.nil_hold _
          (refine wpD_plain 5 (v := (.bool (decide (l :: [a] = lenB cn)))) rfl (by kernel_rfl) (by kernel_rfl) (by kernel_rfl) (fun _ _ _ h => h) (by rfl) ?_ (by assumption) ?_; (intro _w; exact exec_eqS _ _ _ rfl _ _ rfl rfl _w); simp only [Act.put, List.setIfInBounds_toArray, List.set_cons_zero, List.set_cons_succ])
          clear hold
          refine wpD_only 6 [] rfl (by kernel_rfl) (by kernel_rfl) (by rfl) (fun K6 hK6 => ?_)
          refine wp_callP (.func 36) _ _ rfl 36 [] rfl (fun vs w => by kernel_rfl) [.bool (decide (l :: [a] = lenB cn)), .int .i64 90] (by rfl) ?_
          refine (must_any _ 90 w7).mono ?_
          rintro e w8 ⟨rfl, ⟨hb, rfl⟩ | ⟨hb, rfl⟩⟩
          rotate_left
          · refine .inr ⟨_, rfl, rfl, hf7, ?_⟩
            rw [HDS.out]
            unfold hdL
            rw [if_neg hl8, if_pos HE.out]
            simp only
            have hlt9 : a.toNat < 128 := by
              rcases Nat.lt_or_ge a.toNat 128 with hx | hx
              · exact hx
              · exfalso
                have el : l = 129 := UInt8.toNat_inj.1 (by rw [HLN.out, HE.out]; rfl)
                apply of_decide_eq_false hb
                unfold lenB
                rw [← HCN.out, if_neg (by omega), if_pos hal, ofNat_toNat, el]
            rw [if_pos hlt9]
          refine .inl ⟨_, rfl, hK6 _ _ (Facts.nil_hold _) ?_⟩
          clear hK6 K6
          simp only [Act.put, List.setIfInBounds_toArray, List.set_cons_zero, List.set_cons_succ]
          refine wpD_done (by kernel_rfl) ?_ _
          have HBB := hid (of_decide_eq_true hb)
          clear hb
          go_wp2_with fail
          refine (must_any _ 2 w8).mono ?_
          rintro e w9 ⟨rfl, ⟨hb, rfl⟩ | ⟨hb, rfl⟩⟩
          rotate_left
          · refine ⟨rfl, hf7, ?_⟩
            exfalso
            have h := of_decide_eq_false hb
            have := HCN.out
            omega
          have HB4 := hid (of_decide_eq_true hb)
          clear hb
          go_wp2_with fail
          refine ret_three rfl rfl ⟨hf7, ?_⟩
          rw [HDS.out]
          unfold hdL
          rw [if_neg hl8, if_pos HE.out]
          simp only
          have hge : ¬ a.toNat < 128 := by
            intro hx
            have h := HBB.out
            unfold lenB at h
            rw [← HCN.out, if_pos hx] at h
            simp at h
          rw [if_neg hge, HCN.out]
          rfl
        · have HE := hid hlb
          clear hlb
          obtain ⟨a, b, q', rfl⟩ : ∃ a b q', q = a :: b :: q' := by
            have h1 := HNR.out
            have h2 := HH.out
            have h3 := HE.out
            match q, h1 with
            | [], h1 => simp at h1; omega
            | [_], h1 => simp at h1; omega
            | a :: b :: q', _ => exact ⟨a, b, q', rfl⟩
          have hj : joinI 0 [a, b] = ((256 * a.toNat + b.toNat : Nat) : Int) := by simp [joinI]; omega
          have hal := lt256 a
          have hbl := lt256 b
          obtain ⟨cn, hcn⟩ : ∃ cn, 256 * a.toNat + b.toNat = cn := ⟨_, rfl⟩
          have hcl : cn ≤ 65535 := by omega
          have hcli : (cn : Int) ≤ 65535 := by omega
          rw [hcn] at hj
          have HCN := hid hcn
          have HJ := hid hj
          have h34 : h = 4 := by have := HH.out; have := HE.out; omega
          subst h34
          clear hcn hj
          go_wp2_with ((with_reducible show wpList _ _ _ (⟨_, .slice 9 _ _ _ _, _, _, _, _⟩ :: _) _ _); refine wpL_valZ rfl (.string (sb [a, b])) (exec_two _ _ _ rfl S 2 4 rfl rfl (by first | rfl | (show Value.int .i64 _ = _; rw [HHD.out])) (by omega) (by rw [HNN.out]; omega) _ (by rw [← HSS.out]; rfl) _) ?_)
          refine (joined_any 0 [a, b] (by omega) (by simp) w6).mono ?_
          rintro e w10 ⟨rfl, rfl⟩
          rw [HJ.out]
          go_wp2_with fail
          have hold : Facts.hold [] w10.drew := Facts.nil_hold _
          refine wpD_region hold (by kernel_rfl) 7 rfl ?_
          (refine wpD_plain 0 (v := ?_) rfl (by kernel_rfl) (by kernel_rfl) (by kernel_rfl) (fun _ _ _ h => h) (by rfl) ?_ (by assumption) ?_; rotate_left; (intro _w; go_simp; try with_reducible rfl); simp only [Act.put, List.setIfInBounds_toArray, List.set_cons_zero, List.set_cons_succ])
          (refine wpD_plain 1 (v := ?_) rfl (by kernel_rfl) (by kernel_rfl) (by kernel_rfl) (fun _ _ _ h => h) (by rfl) ?_ (by assumption) ?_; rotate_left; (intro _w; go_simp; try with_reducible rfl); simp only [Act.put, List.setIfInBounds_toArray, List.set_cons_zero, List.set_cons_succ])
          (refine wpD_plain 3 (v := ?_) rfl (by kernel_rfl) (by kernel_rfl) (by kernel_rfl) (fun _ _ _ h => h) (by rfl) ?_ (by assumption) ?_; rotate_left; (intro _w; go_simp; try with_reducible rfl); simp only [Act.put, List.setIfInBounds_toArray, List.set_cons_zero, List.set_cons_succ])
          (refine wpD_plain 2 (v := (.string (sb (l :: [a, b])))) rfl (by kernel_rfl) (by kernel_rfl) (by kernel_rfl) (fun _ _ _ h => h) (by rfl) ?_ (by assumption) ?_; (intro _w; exact exec_two _ _ _ rfl S 1 4 rfl rfl rfl (by omega) (by rw [HNN.out]; omega) _ (by rw [← HSS.out]; rfl) _w); simp only [Act.put, List.setIfInBounds_toArray, List.set_cons_zero, List.set_cons_succ])
          clear hold
          refine wpD_only 4 [] rfl (by kernel_rfl) (by kernel_rfl) (by rfl) (fun K4 hK4 => ?_)
          refine wp_call (.func 27) _ _ rfl 27 [] rfl (fun vs w => by kernel_rfl) [.int .i64 (cn : Int)] (by rfl) ?_
          refine (length_any cn (by omega) w10.drew).mono ?_
          rintro e w7 ⟨rfl, f7⟩
          have hf7 : Fr No w10 w7 := (Fr.refl No w10).drew.trans' f7
          refine ⟨_, rfl, hK4 _ _ (Facts.nil_hold _) ?_⟩
          clear hK4 K4
          simp only [Act.put, List.setIfInBounds_toArray, List.set_cons_zero, List.set_cons_succ]
          have hold : Facts.hold [] w7 := Facts.nil_hold _
          (refine wpD_plain 5 (v := (.bool (decide (l :: [a, b] = lenB cn)))) rfl (by kernel_rfl) (by kernel_rfl) (by kernel_rfl) (fun _ _ _ h => h) (by rfl) ?_ (by assumption) ?_; (intro _w; exact exec_eqS _ _ _ rfl _ _ rfl rfl _w); simp only [Act.put, List.setIfInBounds_toArray, List.set_cons_zero, List.set_cons_succ])
          clear hold
          refine wpD_only 6 [] rfl (by kernel_rfl) (by kernel_rfl) (by rfl) (fun K6 hK6 => ?_)
          refine wp_callP (.func 36) _ _ rfl 36 [] rfl (fun vs w => by kernel_rfl) [.bool (decide (l :: [a, b] = lenB cn)), .int .i64 90] (by rfl) ?_
          refine (must_any _ 90 w7).mono ?_
          rintro e w8 ⟨rfl, ⟨hb, rfl⟩ | ⟨hb, rfl⟩⟩
          rotate_left
          · refine .inr ⟨_, rfl, rfl, hf7, ?_⟩
            rw [HDS.out]
            unfold hdL
            rw [if_neg hl8, if_neg (by rw [HE.out]; decide), if_pos HE.out]
            simp only
            have hlt9 : 256 * a.toNat + b.toNat < 256 := by
              rcases Nat.lt_or_ge (256 * a.toNat + b.toNat) 256 with hx | hx
              · exact hx
              · exfalso
                have el : l = 130 := UInt8.toNat_inj.1 (by rw [HLN.out, HE.out]; rfl)
                apply of_decide_eq_false hb
                unfold lenB
                rw [← HCN.out, if_neg (by omega), if_neg (by omega), show (256 * a.toNat + b.toNat) / 256 = a.toNat by omega, show (256 * a.toNat + b.toNat) % 256 = b.toNat by omega, ofNat_toNat, ofNat_toNat, el]
            rw [if_pos hlt9]
          refine .inl ⟨_, rfl, hK6 _ _ (Facts.nil_hold _) ?_⟩
          clear hK6 K6
          simp only [Act.put, List.setIfInBounds_toArray, List.set_cons_zero, List.set_cons_succ]
          refine wpD_done (by kernel_rfl) ?_ _
          have HBB := hid (of_decide_eq_true hb)
          clear hb
          go_wp2_with fail
          refine (must_any _ 2 w8).mono ?_
          rintro e w9 ⟨rfl, ⟨hb, rfl⟩ | ⟨hb, rfl⟩⟩
          rotate_left
          · refine ⟨rfl, hf7, ?_⟩
            have h := of_decide_eq_false hb
            rw [HDS.out]
            unfold hdL
            rw [if_neg hl8, if_neg (by rw [HE.out]; decide), if_pos HE.out]
            simp only
            rw [HCN.out, if_neg (by omega), if_pos (by omega)]
          have HB4 := hid (of_decide_eq_true hb)
          clear hb
          go_wp2_with fail
          refine ret_three rfl rfl ⟨hf7, ?_⟩
          rw [HDS.out]
          unfold hdL
          rw [if_neg hl8, if_neg (by rw [HE.out]; decide), if_pos HE.out]
          simp only
          have hge : ¬ cn < 256 := by
            intro hx
            have h := HBB.out
            unfold lenB at h
            by_cases hy : cn < 128
            · rw [if_pos hy] at h; simp at h
            · rw [if_neg hy, if_pos hx] at h; simp at h
          have hle : ¬ 4000 < cn := by have := HB4.out; omega
          rw [HCN.out, if_neg hge, if_neg hle]
          rfl
      · have hd : hdL tn ln q = .error 90 := by
          unfold hdL
          rw [if_neg hl8, if_neg (fun h => hlb (.inl h)), if_neg (fun h => hlb (.inr h))]
        have HD := hid hd
        clear hd
        by_cases h128 : (ln : Int) = 128
        · go_wp2_with ((with_reducible show wpList _ _ _ (⟨_, .index 9 _ _, _, _, _, _⟩ :: _) _ _); refine wpL_valZ rfl (.int .u8 (ln : Int)) (by rw [← HLN.out]; exact exec_idx _ _ rfl S 1 l H1.out _ rfl rfl rfl _) ?_)
          refine (must_any false 90 w4).mono ?_
          rintro e w5 ⟨rfl, ⟨hb, _⟩ | ⟨hb, rfl⟩⟩
          · cases hb
          · refine ⟨rfl, Fr.refl _ _, ?_⟩
            rw [HDS.out, HD.out]
        · have h130 : ¬ (ln : Int) ≤ 130 := by omega
          go_wp2_with ((with_reducible show wpList _ _ _ (⟨_, .index 9 _ _, _, _, _, _⟩ :: _) _ _); refine wpL_valZ rfl (.int .u8 (ln : Int)) (by rw [← HLN.out]; exact exec_idx _ _ rfl S 1 l H1.out _ rfl rfl rfl _) ?_)
          refine (must_any _ 90 w4).mono ?_
          rintro e w5 ⟨rfl, ⟨hb, _⟩ | ⟨hb, rfl⟩⟩
          · exfalso
            simp at hb
            omega
          · refine ⟨rfl, Fr.refl _ _, ?_⟩
            rw [HDS.out, HD.out]
end Go.Proofs.Ytoikiokcpakokaa.BE
