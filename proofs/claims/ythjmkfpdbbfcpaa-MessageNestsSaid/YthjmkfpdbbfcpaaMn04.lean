/-
  Part 4 of the proof: BeH, BeQ, BeR, BeU, MpB, MeFs.
-/
import Derived.Test.YthjmkfpdbbfcpaaMn02
import Derived.Test.YthjmkfpdbbfcpaaMn00
import Derived.Test.YthjmkfpdbbfcpaaMn03
set_option linter.unusedSimpArgs false
set_option linter.unusedVariables false
namespace Go.Proofs.Ythjmkfpdbbfcpaa.BE
set_option maxRecDepth 100000
open Go.RowKit K

theorem sb_empty' (l : B) : (sb l).toList.isEmpty = l.isEmpty := by rw [ByteArray.toList_eq, sb_list]
/-- What readHead leaves. -/
def Heads (s : B) (w : World) (e : Ending) (w' : World) : Prop := Fr No w w' ∧ match hdS s with
  | .error k => e = .panicked [fl k]
  | .ok (t, c, h) => e = .returned (.tuple #[.int .i64 (t : Int), .int .i64 (c : Int), .int .i64 (h : Int)])
/-- A head by its tag, the next byte and those behind. -/
def hdL (tn ln : Nat) (q : B) : Except Nat (Nat × Nat × Nat) :=
  if ln < 128 then .ok (tn, ln, 2)
  else if ln = 129 then match q with
    | [] => .error 92
    | a :: _ => if a.toNat < 128 then .error 90 else .ok (tn, a.toNat, 3)
  else if ln = 130 then match q with
    | a :: b :: _ => if 256 * a.toNat + b.toNat < 256 then .error 90 else if 4000 < 256 * a.toNat + b.toNat then .error 2 else .ok (tn, 256 * a.toNat + b.toNat, 4)
    | _ => .error 92
  else .error 90
theorem hdS_two {t l : UInt8} (q : B) (ht : tagB t.toNat = true) : hdS (t :: l :: q) = hdL t.toNat l.toNat q := by
  simp only [hdS]
  rw [if_neg (by rw [ht]; simp)]
  rfl
set_option maxHeartbeats 16000000 in
theorem readHead_any (s : B) (hs : s.length ≤ 281474976710656) (w : World) : Calls Try.prog 50 #[.string (sb s)] w (Heads s w) := by
  match s, hs with
  | [], hs =>
    have hse : (sb []).toList.isEmpty = true := by rw [sb_empty']; rfl
    obtain ⟨q, hq⟩ : ∃ q, sb [] = q := ⟨_, rfl⟩
    rw [hq] at hse ⊢
    go_enter Try.func50, Try.ntmps50
    go_wp2_with fail
    refine (must_any false 92 w).mono ?_
    rintro e w1 ⟨rfl, ⟨h, _⟩ | ⟨_, rfl⟩⟩
    · cases h
    · exact ⟨rfl, Fr.refl _ _, rfl⟩
  | t :: r, hs =>
    have hse : (sb (t :: r)).toList.isEmpty = false := by rw [sb_empty']; rfl
    have hsz := sb_size (t :: r)
    obtain ⟨n, hn⟩ : ∃ n, (t :: r).length = n := ⟨_, rfl⟩
    have hnr : n = r.length + 1 := by rw [← hn]; rfl
    rw [hn] at hs hsz
    have hszi : ((sb (t :: r)).size : Int) = n := by omega
    have h0 : (t :: r)[0]? = some t := rfl
    obtain ⟨S, hS⟩ : ∃ S, t :: r = S := ⟨_, rfl⟩
    have HSS := hid hS
    rw [hS] at hse hszi h0 hn ⊢
    have H0 := hid h0; have HNN := hid hn; have HNR := hid hnr
    obtain ⟨tn, htn⟩ : ∃ tn, t.toNat = tn := ⟨_, rfl⟩
    have htl := lt256 t
    rw [htn] at htl
    have HTN := hid htn
    clear hS h0 hn hsz hnr htn
    go_enter Try.func50, Try.ntmps50
    go_wp2_with fail
    refine (must_any true 92 w).mono ?_
    rintro e w1 ⟨rfl, ⟨_, rfl⟩ | ⟨h, _⟩⟩
    rotate_left
    · cases h
    go_wp2_with ((with_reducible refine K.atO (.index 9 _ _) ?_); refine wpL_valZ rfl (.int .u8 (tn : Int)) (by rw [← HTN.out]; exact exec_idx _ _ rfl S 0 t H0.out _ rfl rfl rfl _) ?_)
    refine (isTag_any (tn : Int) w1).mono ?_
    rintro e w2 ⟨rfl, rfl⟩
    go_wp2_with fail
    refine (must_any (tagB tn) 90 w2).mono ?_
    rintro e w3 ⟨rfl, ⟨ht, rfl⟩ | ⟨ht, rfl⟩⟩
    rotate_left
    · refine ⟨rfl, Fr.refl _ _, ?_⟩
      rw [← HSS.out]
      simp only [hdS]
      rw [HTN.out, if_pos ht]
    have HT := hid ht
    clear ht hse
    by_cases hn1 : n = 1
    · obtain rfl : r = [] := List.eq_nil_of_length_eq_zero (by have := HNR.out; omega)
      subst hn1
      have hsz1 : ((sb S).size : Int) = 1 := hszi
      go_wp2_with fail
      refine (must_any false 92 w3).mono ?_
      rintro e w4 ⟨rfl, ⟨h, _⟩ | ⟨_, rfl⟩⟩
      · cases h
      refine ⟨rfl, Fr.refl _ _, ?_⟩
      rw [← HSS.out]
      simp only [hdS]
      rw [HTN.out, if_neg (by rw [HT.out]; simp)]
    obtain ⟨l, q, rfl⟩ : ∃ l q, r = l :: q := by
      cases r with
      | nil => exact absurd HNR.out (by simpa using hn1)
      | cons l q => exact ⟨l, q, rfl⟩
    have hni : (1 : Int) < n := by have := HNR.out; simp at this; omega
    go_wp2_with fail
    refine (must_any true 92 w3).mono ?_
    rintro e w4 ⟨rfl, ⟨_, rfl⟩ | ⟨h, _⟩⟩
    rotate_left
    · cases h
    have H1 : Hid (S[1]? = some l) := hid (by rw [← HSS.out]; rfl)
    obtain ⟨ln, hln⟩ : ∃ ln, l.toNat = ln := ⟨_, rfl⟩
    have hll := lt256 l
    rw [hln] at hll
    have HLN := hid hln
    clear hn1 hln
    have HDS : Hid (hdS S = hdL tn ln q) := hid (by
      rw [← HSS.out, ← HTN.out, ← HLN.out]
      exact hdS_two q (by rw [HTN.out]; exact HT.out))
    by_cases hl8 : ln < 128
    · have hlt : (ln : Int) < 128 := by omega
      go_wp2_with ((with_reducible refine K.atO (.index 9 _ _) ?_); refine wpL_valZ rfl (.int .u8 (ln : Int)) (by rw [← HLN.out]; exact exec_idx _ _ rfl S 1 l H1.out _ rfl rfl rfl _) ?_)
      refine (must_any _ 90 w4).mono ?_
      rintro e w5 ⟨rfl, ⟨_, rfl⟩ | ⟨hb, rfl⟩⟩
      rotate_left
      · exfalso
        simp at hb
        omega
      go_wp2_with fail
      have hold : Facts.hold [] w5.drew := Facts.nil_hold _
      refine wpD_region hold (by kernel_rfl) 7 rfl ?_
      (refine wpD_plain 0 (v := ?_) rfl (by kernel_rfl) (by kernel_rfl) (by kernel_rfl) (fun _ _ _ h => h) (by rfl) ?_ (by assumption) ?_; rotate_left; (intro _w; go_simp; try with_reducible rfl); simp only [Act.put, K.put3])
      (refine wpD_plain 1 (v := ?_) rfl (by kernel_rfl) (by kernel_rfl) (by kernel_rfl) (fun _ _ _ h => h) (by rfl) ?_ (by assumption) ?_; rotate_left; (intro _w; go_simp; try with_reducible rfl); simp only [Act.put, K.put3])
      (refine wpD_plain 3 (v := ?_) rfl (by kernel_rfl) (by kernel_rfl) (by kernel_rfl) (fun _ _ _ h => h) (by rfl) ?_ (by assumption) ?_; rotate_left; (intro _w; go_simp; try with_reducible rfl); simp only [Act.put, K.put3])
      (refine wpD_plain 2 (v := (.string (sb ([l])))) rfl (by kernel_rfl) (by kernel_rfl) (by kernel_rfl) (fun _ _ _ h => h) (by rfl) ?_ (by assumption) ?_; (intro _w; exact exec_two _ _ _ rfl S 1 2 rfl rfl rfl (by omega) (by rw [HNN.out]; omega) _ (by rw [← HSS.out]; rfl) _w); simp only [Act.put, K.put3])
      clear hold
      refine wpD_only 4 [] rfl (by kernel_rfl) (by kernel_rfl) (by rfl) (fun K4 hK4 => ?_)
      refine wp_call (.func 41) _ _ rfl 41 [] rfl (fun vs w => by kernel_rfl) [.int .i64 (ln : Int)] (by rfl) ?_
      refine (length_any ln (by omega) w5.drew).mono ?_
      rintro e w7 ⟨rfl, f7⟩
      have hf7 : Fr No w5 w7 := (Fr.refl No w5).drew.trans' f7
      refine ⟨_, rfl, hK4 _ _ (Facts.nil_hold _) ?_⟩
      clear hK4 K4
      simp only [Act.put, K.put3]
      have hold : Facts.hold [] w7 := Facts.nil_hold _
      (refine wpD_plain 5 (v := (.bool (decide ([l] = lenB ln)))) rfl (by kernel_rfl) (by kernel_rfl) (by kernel_rfl) (fun _ _ _ h => h) (by rfl) ?_ (by assumption) ?_; (intro _w; exact exec_eqS _ _ _ rfl _ _ rfl rfl _w); simp only [Act.put, K.put3])
      clear hold
      refine wpD_only 6 [] rfl (by kernel_rfl) (by kernel_rfl) (by rfl) (fun K6 hK6 => ?_)
      refine wp_callP (.func 49) _ _ rfl 49 [] rfl (fun vs w => by kernel_rfl) [.bool (decide ([l] = lenB ln)), .int .i64 90] (by rfl) ?_
      refine (must_any _ 90 w7).mono ?_
      rintro e w8 ⟨rfl, ⟨hb, rfl⟩ | ⟨hb, rfl⟩⟩
      rotate_left
      · refine .inr ⟨_, rfl, rfl, hf7, ?_⟩
        have e : lenB ln = [l] := by unfold lenB; rw [if_pos hl8, ← HLN.out, ofNat_toNat]
        rw [e] at hb
        simp at hb
      refine .inl ⟨_, rfl, hK6 _ _ (Facts.nil_hold _) ?_⟩
      clear hK6 K6
      simp only [Act.put, K.put3]
      refine wpD_done (by kernel_rfl) ?_ _
      have HBB := hid (of_decide_eq_true hb)
      clear hb
      go_wp2_with fail
      refine (must_any _ 2 w8).mono ?_
      rintro e w9 ⟨rfl, ⟨hb, rfl⟩ | ⟨hb, rfl⟩⟩
      rotate_left
      · refine ⟨rfl, hf7, ?_⟩
        have h := of_decide_eq_false hb
        omega
      have HB4 := hid (of_decide_eq_true hb)
      clear hb
      go_wp2_with fail
      refine ret_three rfl rfl ⟨hf7, ?_⟩
      rw [HDS.out]
      simp only [hdL]
      rw [if_pos hl8]
      rfl
    · by_cases hlb : ln = 129 ∨ ln = 130
      · have hln : 129 ≤ ln ∧ ln ≤ 130 := by omega
        have hlt : ¬ (ln : Int) = 128 := by omega
        have hlt2 : (ln : Int) ≤ 130 := by omega
        have hlt3 : (128 : Int) < ln := by omega
        go_wp2_with ((with_reducible refine K.atO (.index 9 _ _) ?_); refine wpL_valZ rfl (.int .u8 (ln : Int)) (by rw [← HLN.out]; exact exec_idx _ _ rfl S 1 l H1.out _ rfl rfl rfl _) ?_)
        refine (must_any _ 90 w4).mono ?_
        rintro e w5 ⟨rfl, ⟨_, rfl⟩ | ⟨hb, rfl⟩⟩
        rotate_left
        · exfalso
          simp at hb
          omega
        have hhd : (2 : Int) + ((ln : Int) - 128) = ((ln - 126 : Nat) : Int) := by omega
        obtain ⟨h, hh⟩ : ∃ h, ln - 126 = h := ⟨_, rfl⟩
        rw [hh] at hhd
        have hh3 : 3 ≤ h ∧ h ≤ 4 := by omega
        have HH := hid hh
        have HHD := hid hhd
        clear hh hhd
        go_wp2_with fail
        rw [HHD.out]
        refine (must_any _ 92 w5).mono ?_
        rintro e w6 ⟨rfl, ⟨hb, rfl⟩ | ⟨hb, rfl⟩⟩
        rotate_left
        · have hlt9 : n < h := by have := of_decide_eq_false hb; omega
          refine ⟨rfl, Fr.refl _ _, ?_⟩
          rw [HDS.out]
          unfold hdL
          rw [if_neg hl8]
          have h1 := HNR.out
          have h2 := HH.out
          by_cases he : ln = 129
          · rw [if_pos he]
            cases q with
            | nil => rfl
            | cons a q' => simp at h1; omega
          · rw [if_neg he, if_pos (by omega)]
            match q, h1 with
            | [], _ => rfl
            | [_], _ => rfl
            | a :: b :: q', h1 => simp at h1; omega
        have hnh : h ≤ n := by have := of_decide_eq_true hb; omega
        have HNH := hid hnh
        clear hb
        rcases hlb with hlb | hlb
        · have HE := hid hlb
          clear hlb
          obtain ⟨a, q', rfl⟩ : ∃ a q', q = a :: q' := by
            have h1 := HNR.out
            have h2 := HH.out
            have h3 := HE.out
            cases q with
            | nil => simp at h1; omega
            | cons a q' => exact ⟨a, q', rfl⟩
          have hj : joinI 0 [a] = ((a.toNat : Nat) : Int) := by simp [joinI]
          have hal := lt256 a
          obtain ⟨cn, hcn⟩ : ∃ cn, a.toNat = cn := ⟨_, rfl⟩
          have hcl : cn ≤ 65535 := by omega
          have hcli : (cn : Int) ≤ 65535 := by omega
          rw [hcn] at hj
          have HCN := hid hcn
          have HJ := hid hj
          have h34 : h = 3 := by have := HH.out; have := HE.out; omega
          subst h34
          clear hcn hj
          go_wp2_with ((with_reducible refine K.atO (.slice 9 _ _ _ _) ?_); refine wpL_valZ rfl (.string (sb [a])) (exec_two _ _ _ rfl S 2 3 rfl rfl (by first | rfl | (show Value.int .i64 _ = _; rw [HHD.out])) (by omega) (by rw [HNN.out]; omega) _ (by rw [← HSS.out]; rfl) _) ?_)
          refine (joined_any 0 [a] (by omega) (by simp) w6).mono ?_
          rintro e w10 ⟨rfl, rfl⟩
          rw [HJ.out]
          go_wp2_with fail
          have hold : Facts.hold [] w10.drew := Facts.nil_hold _
          refine wpD_region hold (by kernel_rfl) 7 rfl ?_
          (refine wpD_plain 0 (v := ?_) rfl (by kernel_rfl) (by kernel_rfl) (by kernel_rfl) (fun _ _ _ h => h) (by rfl) ?_ (by assumption) ?_; rotate_left; (intro _w; go_simp; try with_reducible rfl); simp only [Act.put, K.put3])
          (refine wpD_plain 1 (v := ?_) rfl (by kernel_rfl) (by kernel_rfl) (by kernel_rfl) (fun _ _ _ h => h) (by rfl) ?_ (by assumption) ?_; rotate_left; (intro _w; go_simp; try with_reducible rfl); simp only [Act.put, K.put3])
          (refine wpD_plain 3 (v := ?_) rfl (by kernel_rfl) (by kernel_rfl) (by kernel_rfl) (fun _ _ _ h => h) (by rfl) ?_ (by assumption) ?_; rotate_left; (intro _w; go_simp; try with_reducible rfl); simp only [Act.put, K.put3])
          (refine wpD_plain 2 (v := (.string (sb (l :: [a])))) rfl (by kernel_rfl) (by kernel_rfl) (by kernel_rfl) (fun _ _ _ h => h) (by rfl) ?_ (by assumption) ?_; (intro _w; exact exec_two _ _ _ rfl S 1 3 rfl rfl rfl (by omega) (by rw [HNN.out]; omega) _ (by rw [← HSS.out]; rfl) _w); simp only [Act.put, K.put3])
          clear hold
          refine wpD_only 4 [] rfl (by kernel_rfl) (by kernel_rfl) (by rfl) (fun K4 hK4 => ?_)
          refine wp_call (.func 41) _ _ rfl 41 [] rfl (fun vs w => by kernel_rfl) [.int .i64 (cn : Int)] (by rfl) ?_
          refine (length_any cn (by omega) w10.drew).mono ?_
          rintro e w7 ⟨rfl, f7⟩
          have hf7 : Fr No w10 w7 := (Fr.refl No w10).drew.trans' f7
          refine ⟨_, rfl, hK4 _ _ (Facts.nil_hold _) ?_⟩
          clear hK4 K4
          simp only [Act.put, K.put3]
          have hold : Facts.hold [] w7 := Facts.nil_hold _
          (refine wpD_plain 5 (v := (.bool (decide (l :: [a] = lenB cn)))) rfl (by kernel_rfl) (by kernel_rfl) (by kernel_rfl) (fun _ _ _ h => h) (by rfl) ?_ (by assumption) ?_; (intro _w; exact exec_eqS _ _ _ rfl _ _ rfl rfl _w); simp only [Act.put, K.put3])
          clear hold
          refine wpD_only 6 [] rfl (by kernel_rfl) (by kernel_rfl) (by rfl) (fun K6 hK6 => ?_)
          refine wp_callP (.func 49) _ _ rfl 49 [] rfl (fun vs w => by kernel_rfl) [.bool (decide (l :: [a] = lenB cn)), .int .i64 90] (by rfl) ?_
          refine (must_any _ 90 w7).mono ?_
          rintro e w8 ⟨rfl, ⟨hb, rfl⟩ | ⟨hb, rfl⟩⟩
          rotate_left
          · refine .inr ⟨_, rfl, rfl, hf7, ?_⟩
            rw [HDS.out]
            unfold hdL
            rw [if_neg hl8, if_pos HE.out]
            simp only
            have hlt9 : a.toNat < 128 := by
              rcases Nat.lt_or_ge a.toNat 128 with hx | hx
              · exact hx
              · exfalso
                have el : l = 129 := UInt8.toNat_inj.1 (by rw [HLN.out, HE.out]; rfl)
                apply of_decide_eq_false hb
                unfold lenB
                rw [← HCN.out, if_neg (by omega), if_pos hal, ofNat_toNat, el]
            rw [if_pos hlt9]
          refine .inl ⟨_, rfl, hK6 _ _ (Facts.nil_hold _) ?_⟩
          clear hK6 K6
          simp only [Act.put, K.put3]
          refine wpD_done (by kernel_rfl) ?_ _
          have HBB := hid (of_decide_eq_true hb)
          clear hb
          go_wp2_with fail
          refine (must_any _ 2 w8).mono ?_
          rintro e w9 ⟨rfl, ⟨hb, rfl⟩ | ⟨hb, rfl⟩⟩
          rotate_left
          · refine ⟨rfl, hf7, ?_⟩
            exfalso
            have h := of_decide_eq_false hb
            have := HCN.out
            omega
          have HB4 := hid (of_decide_eq_true hb)
          clear hb
          go_wp2_with fail
          refine ret_three rfl rfl ⟨hf7, ?_⟩
          rw [HDS.out]
          unfold hdL
          rw [if_neg hl8, if_pos HE.out]
          simp only
          have hge : ¬ a.toNat < 128 := by
            intro hx
            have h := HBB.out
            unfold lenB at h
            rw [← HCN.out, if_pos hx] at h
            simp at h
          rw [if_neg hge, HCN.out]
          rfl
        · have HE := hid hlb
          clear hlb
          obtain ⟨a, b, q', rfl⟩ : ∃ a b q', q = a :: b :: q' := by
            have h1 := HNR.out
            have h2 := HH.out
            have h3 := HE.out
            match q, h1 with
            | [], h1 => simp at h1; omega
            | [_], h1 => simp at h1; omega
            | a :: b :: q', _ => exact ⟨a, b, q', rfl⟩
          have hj : joinI 0 [a, b] = ((256 * a.toNat + b.toNat : Nat) : Int) := by simp [joinI]; omega
          have hal := lt256 a
          have hbl := lt256 b
          obtain ⟨cn, hcn⟩ : ∃ cn, 256 * a.toNat + b.toNat = cn := ⟨_, rfl⟩
          have hcl : cn ≤ 65535 := by omega
          have hcli : (cn : Int) ≤ 65535 := by omega
          rw [hcn] at hj
          have HCN := hid hcn
          have HJ := hid hj
          have h34 : h = 4 := by have := HH.out; have := HE.out; omega
          subst h34
          clear hcn hj
          go_wp2_with ((with_reducible refine K.atO (.slice 9 _ _ _ _) ?_); refine wpL_valZ rfl (.string (sb [a, b])) (exec_two _ _ _ rfl S 2 4 rfl rfl (by first | rfl | (show Value.int .i64 _ = _; rw [HHD.out])) (by omega) (by rw [HNN.out]; omega) _ (by rw [← HSS.out]; rfl) _) ?_)
          refine (joined_any 0 [a, b] (by omega) (by simp) w6).mono ?_
          rintro e w10 ⟨rfl, rfl⟩
          rw [HJ.out]
          go_wp2_with fail
          have hold : Facts.hold [] w10.drew := Facts.nil_hold _
          refine wpD_region hold (by kernel_rfl) 7 rfl ?_
          (refine wpD_plain 0 (v := ?_) rfl (by kernel_rfl) (by kernel_rfl) (by kernel_rfl) (fun _ _ _ h => h) (by rfl) ?_ (by assumption) ?_; rotate_left; (intro _w; go_simp; try with_reducible rfl); simp only [Act.put, K.put3])
          (refine wpD_plain 1 (v := ?_) rfl (by kernel_rfl) (by kernel_rfl) (by kernel_rfl) (fun _ _ _ h => h) (by rfl) ?_ (by assumption) ?_; rotate_left; (intro _w; go_simp; try with_reducible rfl); simp only [Act.put, K.put3])
          (refine wpD_plain 3 (v := ?_) rfl (by kernel_rfl) (by kernel_rfl) (by kernel_rfl) (fun _ _ _ h => h) (by rfl) ?_ (by assumption) ?_; rotate_left; (intro _w; go_simp; try with_reducible rfl); simp only [Act.put, K.put3])
          (refine wpD_plain 2 (v := (.string (sb (l :: [a, b])))) rfl (by kernel_rfl) (by kernel_rfl) (by kernel_rfl) (fun _ _ _ h => h) (by rfl) ?_ (by assumption) ?_; (intro _w; exact exec_two _ _ _ rfl S 1 4 rfl rfl rfl (by omega) (by rw [HNN.out]; omega) _ (by rw [← HSS.out]; rfl) _w); simp only [Act.put, K.put3])
          clear hold
          refine wpD_only 4 [] rfl (by kernel_rfl) (by kernel_rfl) (by rfl) (fun K4 hK4 => ?_)
          refine wp_call (.func 41) _ _ rfl 41 [] rfl (fun vs w => by kernel_rfl) [.int .i64 (cn : Int)] (by rfl) ?_
          refine (length_any cn (by omega) w10.drew).mono ?_
          rintro e w7 ⟨rfl, f7⟩
          have hf7 : Fr No w10 w7 := (Fr.refl No w10).drew.trans' f7
          refine ⟨_, rfl, hK4 _ _ (Facts.nil_hold _) ?_⟩
          clear hK4 K4
          simp only [Act.put, K.put3]
          have hold : Facts.hold [] w7 := Facts.nil_hold _
          (refine wpD_plain 5 (v := (.bool (decide (l :: [a, b] = lenB cn)))) rfl (by kernel_rfl) (by kernel_rfl) (by kernel_rfl) (fun _ _ _ h => h) (by rfl) ?_ (by assumption) ?_; (intro _w; exact exec_eqS _ _ _ rfl _ _ rfl rfl _w); simp only [Act.put, K.put3])
          clear hold
          refine wpD_only 6 [] rfl (by kernel_rfl) (by kernel_rfl) (by rfl) (fun K6 hK6 => ?_)
          refine wp_callP (.func 49) _ _ rfl 49 [] rfl (fun vs w => by kernel_rfl) [.bool (decide (l :: [a, b] = lenB cn)), .int .i64 90] (by rfl) ?_
          refine (must_any _ 90 w7).mono ?_
          rintro e w8 ⟨rfl, ⟨hb, rfl⟩ | ⟨hb, rfl⟩⟩
          rotate_left
          · refine .inr ⟨_, rfl, rfl, hf7, ?_⟩
            rw [HDS.out]
            unfold hdL
            rw [if_neg hl8, if_neg (by rw [HE.out]; decide), if_pos HE.out]
            simp only
            have hlt9 : 256 * a.toNat + b.toNat < 256 := by
              rcases Nat.lt_or_ge (256 * a.toNat + b.toNat) 256 with hx | hx
              · exact hx
              · exfalso
                have el : l = 130 := UInt8.toNat_inj.1 (by rw [HLN.out, HE.out]; rfl)
                apply of_decide_eq_false hb
                unfold lenB
                rw [← HCN.out, if_neg (by omega), if_neg (by omega), show (256 * a.toNat + b.toNat) / 256 = a.toNat by omega, show (256 * a.toNat + b.toNat) % 256 = b.toNat by omega, ofNat_toNat, ofNat_toNat, el]
            rw [if_pos hlt9]
          refine .inl ⟨_, rfl, hK6 _ _ (Facts.nil_hold _) ?_⟩
          clear hK6 K6
          simp only [Act.put, K.put3]
          refine wpD_done (by kernel_rfl) ?_ _
          have HBB := hid (of_decide_eq_true hb)
          clear hb
          go_wp2_with fail
          refine (must_any _ 2 w8).mono ?_
          rintro e w9 ⟨rfl, ⟨hb, rfl⟩ | ⟨hb, rfl⟩⟩
          rotate_left
          · refine ⟨rfl, hf7, ?_⟩
            have h := of_decide_eq_false hb
            rw [HDS.out]
            unfold hdL
            rw [if_neg hl8, if_neg (by rw [HE.out]; decide), if_pos HE.out]
            simp only
            rw [HCN.out, if_neg (by omega), if_pos (by omega)]
          have HB4 := hid (of_decide_eq_true hb)
          clear hb
          go_wp2_with fail
          refine ret_three rfl rfl ⟨hf7, ?_⟩
          rw [HDS.out]
          unfold hdL
          rw [if_neg hl8, if_neg (by rw [HE.out]; decide), if_pos HE.out]
          simp only
          have hge : ¬ cn < 256 := by
            intro hx
            have h := HBB.out
            unfold lenB at h
            by_cases hy : cn < 128
            · rw [if_pos hy] at h; simp at h
            · rw [if_neg hy, if_pos hx] at h; simp at h
          have hle : ¬ 4000 < cn := by have := HB4.out; omega
          rw [HCN.out, if_neg hge, if_neg hle]
          rfl
      · have hd : hdL tn ln q = .error 90 := by
          unfold hdL
          rw [if_neg hl8, if_neg (fun h => hlb (.inl h)), if_neg (fun h => hlb (.inr h))]
        have HD := hid hd
        clear hd
        by_cases h128 : (ln : Int) = 128
        · go_wp2_with ((with_reducible refine K.atO (.index 9 _ _) ?_); refine wpL_valZ rfl (.int .u8 (ln : Int)) (by rw [← HLN.out]; exact exec_idx _ _ rfl S 1 l H1.out _ rfl rfl rfl _) ?_)
          refine (must_any false 90 w4).mono ?_
          rintro e w5 ⟨rfl, ⟨hb, _⟩ | ⟨hb, rfl⟩⟩
          · cases hb
          · refine ⟨rfl, Fr.refl _ _, ?_⟩
            rw [HDS.out, HD.out]
        · have h130 : ¬ (ln : Int) ≤ 130 := by omega
          go_wp2_with ((with_reducible refine K.atO (.index 9 _ _) ?_); refine wpL_valZ rfl (.int .u8 (ln : Int)) (by rw [← HLN.out]; exact exec_idx _ _ rfl S 1 l H1.out _ rfl rfl rfl _) ?_)
          refine (must_any _ 90 w4).mono ?_
          rintro e w5 ⟨rfl, ⟨hb, _⟩ | ⟨hb, rfl⟩⟩
          · exfalso
            simp at hb
            omega
          · refine ⟨rfl, Fr.refl _ _, ?_⟩
            rw [HDS.out, HD.out]
end Go.Proofs.Ythjmkfpdbbfcpaa.BE

namespace Go.Proofs.Ythjmkfpdbbfcpaa.BE
set_option maxRecDepth 100000

theorem hd_err {s : B} {e : Nat} (h : hdS s = .error e) : e ≠ 0 := by
  match s, h with
  | [], h => cases h; decide
  | [b], h =>
    simp only [hdS] at h
    split at h <;> (cases h; decide)
  | b :: l :: q, h =>
    simp only [hdS] at h
    split at h
    · cases h; decide
    · split at h
      · cases h
      · split at h
        · split at h
          · cases h; decide
          · split at h <;> cases h
            decide
        · split at h
          · split at h
            · split at h
              · cases h; decide
              · split at h <;> cases h
                decide
            · cases h; decide
          · cases h; decide
theorem kids_err {f : B → Except Nat (Nd × Nat)} (hf : ∀ s e, f s = .error e → e ≠ 0) (hu : ∀ s n u, f s = .ok (n, u) → 2 ≤ u ∧ u ≤ s.length) : ∀ (k : Nat) (s : B) (e : Nat), s.length ≤ k → kidsG f k s = .error e → e ≠ 0
  | 0, s, e, hs, h => by
    have : s = [] := List.eq_nil_of_length_eq_zero (by omega)
    subst this
    cases h
  | k + 1, s, e, hs, h => by
    unfold kidsG at h
    split at h
    · cases h
    · split at h
      · rename_i e' he
        cases h
        exact hf _ _ he
      · rename_i n u hr
        obtain ⟨h2, h3⟩ := hu _ _ _ hr
        split at h
        · rename_i e' hk
          cases h
          exact kids_err hf hu k _ _ (by rw [List.length_drop]; omega) hk
        · cases h
theorem rd_err : ∀ (m : Nat) (s : B) (e : Nat), rd m s = .error e → e ≠ 0
  | 0, s, e, h => by cases h; decide
  | m + 1, s, e, h => by
    unfold rd at h
    split at h
    · rename_i e' he
      cases h
      exact hd_err he
    · split at h
      · cases h; decide
      · split at h
        · split at h
          · rename_i e' hk
            have := kids_err (rd_err m) (fun s n u hr => ⟨(rd_inv m s n u hr).2.2.2.2.1, (rd_inv m s n u hr).2.2.2.2.2⟩) _ _ _ (Nat.le_refl _) hk
            cases h
            split
            · decide
            · exact this
          · cases h
        · cases h
/-- Some ahead of those that come. -/
def mapK (acc : List Nd) : Except Nat (List Nd) → Except Nat (List Nd)
  | .ok ns => .ok (acc ++ ns)
  | .error e => .error e
theorem mapK_nil (r : Except Nat (List Nd)) : mapK [] r = r := by cases r <;> rfl
theorem mapK_done (acc : List Nd) (f : B → Except Nat (Nd × Nat)) (k : Nat) : mapK acc (kidsG f k []) = .ok acc := by
  cases k <;> simp [kidsG, mapK]
theorem mapK_err (acc : List Nd) (f : B → Except Nat (Nd × Nat)) {k : Nat} {r : B} {e : Nat} (hr : r ≠ []) (hk : r.length ≤ k) (h : f r = .error e) : mapK acc (kidsG f k r) = .error e := by
  cases k with
  | zero => exact absurd (List.eq_nil_of_length_eq_zero (by omega)) hr
  | succ k =>
    unfold kidsG
    rw [if_neg hr, h]
    rfl
theorem mapK_step (acc : List Nd) (f : B → Except Nat (Nd × Nat)) {k : Nat} {r : B} {n : Nd} {u : Nat} (hr : r ≠ []) (hk : r.length ≤ k) (h : f r = .ok (n, u)) : ∃ j, k = j + 1 ∧ mapK acc (kidsG f k r) = mapK (acc ++ [n]) (kidsG f j (r.drop u)) := by
  cases k with
  | zero => exact absurd (List.eq_nil_of_length_eq_zero (by omega)) hr
  | succ k =>
    refine ⟨k, rfl, ?_⟩
    conv => lhs; unfold kidsG
    rw [if_neg hr, h]
    simp only
    cases hx : kidsG f k (r.drop u) with
    | error e => rfl
    | ok ns => simp [mapK]
end Go.Proofs.Ythjmkfpdbbfcpaa.BE

namespace Go.Proofs.Ythjmkfpdbbfcpaa.BE
set_option maxRecDepth 100000
open Go.RowKit K

theorem infoNs : (Try.prog.info? 42).map (·.size) = some 1 := by kernel_rfl
/-- What lies at N or behind. -/
def Since (N : Nat) : Nat → Prop := fun k => N ≤ k
set_option maxHeartbeats 4000000 in
/-- The visitor of read: a child more. -/
theorem visit_any (base bn : Nat) (t : Int) (v : Value) (q : Nat) (xs cs : List Value) (w : World) (hB : Blk w bn 44 [.int .i64 t, .string ⟨#[]⟩, v]) (hr : w.ownsRow base 44 3 v q xs) (hbn : bn < base) (hbs : base ≤ w.heap.size) (hq : q ≤ 1000000) (hcs : cs.length = 3) (h1 : ∀ u ∈ cs, u.oneCell' = true) :
    Calls Try.prog 53 #[.agg cs.toArray, .pointer (some ⟨bn, 0, none⟩)] w fun e w' => e = .returned (.tuple #[]) ∧ ∃ v', Blk w' bn 44 [.int .i64 t, .string ⟨#[]⟩, v'] ∧ w'.ownsRow base 44 3 v' (q + 1) (xs ++ cs) ∧
      Fr (fun k => k = bn ∨ v.ownBlock = some k ∨ v'.ownBlock = some k) w w' ∧ ∀ g, v'.ownBlock = some g → v.ownBlock = some g ∨ w.heap.size ≤ g := by
  obtain ⟨x', y', z', hc⟩ := box_kid cs hcs
  subst hc
  obtain ⟨va, vc, rfl, -, -⟩ := own_form hr
  obtain ⟨ic, hic, hzc, hsc, hbc⟩ := Go.info_parts infozN
  have IC := hid hic; have ZC := hid hzc; have SC := hid hsc; have BC := hid hbc
  have HB := hid hB; have HR := hid hr; have HBN := hid hbn; have HBS := hid hbs; have H1 := hid h1
  have hqi : (q : Int) ≤ 1000000 := by omega
  clear hB hr hbn hbs h1 hcs hic hzc hsc hbc
  go_enter Try.func53, Try.ntmps53
  go_wp2_with (first
    | ((with_reducible refine K.atO (.box 44 _) ?_); refine wpL_box rfl _ _ rfl _ rfl [x', y', z'] rfl ?_; intro w1 HB1 F1 HS1))
  have hb1 := HB.out.fr F1.out id
  have k1 : w1.cell? ⟨bn, 2, none⟩ = some (.slice va q vc) := hb1.cell 2
  have k2 : w1.rangeAt w.heap.size 0 [x', y', z'] := HB1.out.range 0 _ rfl
  have hold : Facts.hold [(1, fun w' => w'.cell? ⟨bn, 2, none⟩ = some (.slice va q vc)), (2, fun w' => w'.rangeAt w.heap.size 0 [x', y', z'])] w1.drew := Facts.cons_hold k1 (Facts.cons_hold k2 (Facts.nil_hold _))
  have hZ1 : ∀ u ∈ [Value.int .i64 0, .string ⟨#[]⟩, .slice none 0 0], u.oneCell' = true := by intro u hu; simp at hu; rcases hu with rfl | rfl | rfl <;> rfl
  have HK1 := hid hb1
  clear hb1
  refine wpD_region hold (by kernel_rfl) 10 rfl ?_
  (refine wpD_plain 0 (v := ?_) rfl (by kernel_rfl) (by kernel_rfl) (by kernel_rfl) (fun _ _ _ h => h) (by rfl) ?_ (by assumption) ?_; rotate_left; (intro _w; go_simp; try with_reducible rfl); simp only [Act.put, K.put3])
  (refine wpD_take 1 _ rfl (by kernel_rfl) (by kernel_rfl) (by kernel_rfl) (fun _ _ _ h => h) List.mem_cons_self (by rfl) (v := ?_) ?_ (by assumption) ?_; rotate_left; (intro _w _hw; go_simp; try with_reducible rfl); simp only [Act.put, K.put3])
  (refine wpD_take 2 _ rfl (by kernel_rfl) (by kernel_rfl) (by kernel_rfl) (fun _ _ _ h => h) (List.mem_cons_of_mem _ List.mem_cons_self) (by rfl) (exec_load _ _ rfl w.heap.size 0 rfl _ _ rfl rfl infoN) (by assumption) ?_; simp only [Act.put, K.put3])
  (refine wpD_plain 3 (v := ?_) rfl (by kernel_rfl) (by kernel_rfl) (by kernel_rfl) (fun _ _ _ h => h) (by rfl) ?_ (by assumption) ?_; rotate_left; (intro _w; go_simp; try with_reducible rfl); simp only [Act.put, K.put3])
  clear hold
  refine wpD_only 4 [(1, fun w' => w'.cell? ⟨bn, 2, none⟩ = some (.slice va q vc)), (2, fun w' => w'.rangeAt w.heap.size 0 [x', y', z'])] rfl (by kernel_rfl) (by kernel_rfl) (by rfl) (fun K4 hK4 => ?_)
  refine wp_buildOne _ 44 _ rfl ic _ rfl IC.out ZC.out (by rw [SC.out]; decide) (by rw [SC.out]; decide) (.agg #[.int .i64 0, .string ⟨#[]⟩, .slice none 0 0]) [.int .i64 0, .string ⟨#[]⟩, .slice none 0 0] rfl rfl (by rw [SC.out]; rfl) ?_
  intro w2 HB2 F2 HS2
  have hold : Facts.hold [(1, fun w' => w'.cell? ⟨bn, 2, none⟩ = some (.slice va q vc)), (2, fun w' => w'.rangeAt w.heap.size 0 [x', y', z'])] w2 := Facts.cons_hold (F2.out.cell k1 id) (Facts.cons_hold (F2.out.range k2 id) (Facts.nil_hold _))
  refine hK4 _ _ hold ?_
  clear hK4 K4 hold k1 k2
  simp only [Act.put, K.put3]
  have hf12 : Fr No w w2 := F1.out.trans' ((Fr.refl No w1).drew.trans' F2.out)
  have hr2 : w2.ownsRow base 44 3 (.slice va q vc) q xs := own_fr HR.out hf12 (fun _ _ e => e)
  refine wpD_only 5 [] rfl (by kernel_rfl) (by kernel_rfl) (by rfl) (fun K5 hK5 => ?_)
  refine wp_append _ _ 42 rfl base 44 ic _ 3 48 Try.underlying42 IC.out ZC.out SC.out BC.out rfl (by decide) (.slice va q vc) q xs rfl hr2 (some ⟨w1.drew.heap.size, 0, none⟩) 1 _ [.int .i64 0, .string ⟨#[]⟩, .slice none 0 0] rfl rfl (.inr ⟨_, rfl, HB2.out.news⟩) hZ1 (by unfold maxLen; omega) (by omega) (Nat.le_trans HBS.out hf12.size) ?_
  intro a7 c7 w3 HO3 HG3 HA3
  refine hK5 _ _ (Facts.nil_hold _) ?_
  clear hK5 K5
  simp only [Act.put, K.put3]
  obtain ⟨g, cap, cs, hv, hcap, hBg, hgl, hset⟩ := own_last (kid := [x', y', z']) HO3.out HR.out.1 rfl
  simp only [Value.slice.injEq, true_and] at hv
  obtain ⟨rfl, rfl⟩ := hv
  have hga : (Value.slice (some ⟨g, 0, none⟩) (q + 1) c7).ownBlock = some g := rfl
  have hgb : base ≤ g := own_low HO3.out g rfl
  have hgn : g ≠ bn := by have := HBN.out; omega
  have hBb : Blk w3 bn 44 [.int .i64 t, .string ⟨#[]⟩, .slice va q vc] := (HB.out.fr hf12 id).fr (frown HG3.out) (fun e => by have := own_low HR.out bn e; have := HBN.out; omega)
  have hf3 : Fr (fun k => k = bn ∨ (Value.slice va q vc).ownBlock = some k ∨ (Value.slice (some ⟨g, 0, none⟩) (q + 1) c7).ownBlock = some k) w w3 := (Fr.no hf12).trans' ((frown HG3.out).mono fun k hk => .inr (.inl hk))
  have hown : ∀ j, (Value.slice (some ⟨g, 0, none⟩) (q + 1) c7).ownBlock = some j → (Value.slice va q vc).ownBlock = some j ∨ w.heap.size ≤ j := fun j hj => by
    rcases or_own HA3.out j hj with h | h
    · exact .inl h
    · exact .inr (Nat.le_trans hf12.size h)
  have FIN : ∀ w5, Blk w5 bn 44 [.int .i64 t, .string ⟨#[]⟩, .slice (some ⟨g, 0, none⟩) (q + 1) c7] → w5.ownsRow base 44 3 (.slice (some ⟨g, 0, none⟩) (q + 1) c7) (q + 1) (xs ++ [x', y', z']) → Fr (fun k => k = bn ∨ k = g) w3 w5 →
      ∃ v', Blk w5 bn 44 [.int .i64 t, .string ⟨#[]⟩, v'] ∧ w5.ownsRow base 44 3 v' (q + 1) (xs ++ [x', y', z']) ∧ Fr (fun k => k = bn ∨ (Value.slice va q vc).ownBlock = some k ∨ v'.ownBlock = some k) w w5 ∧ ∀ j, v'.ownBlock = some j → (Value.slice va q vc).ownBlock = some j ∨ w.heap.size ≤ j :=
    fun w5 h1 h2 h3 => ⟨_, h1, h2, hf3.trans' (h3.mono fun k hk => hk.elim .inl fun e => .inr (.inr (by rw [e]; rfl))), hown⟩
  have HFIN := hid FIN
  have hqq : (0 : Int) ≤ (q : Int) ∧ (q : Int) < (q : Int) + 1 := by omega
  have hold : Facts.hold [] w3 := Facts.nil_hold _
  (refine wpD_plain 8 (v := ?_) rfl (by kernel_rfl) (by kernel_rfl) (by kernel_rfl) (fun _ _ _ h => h) (by rfl) ?_ (by assumption) ?_; rotate_left; (intro _w; go_simp; try with_reducible rfl); simp only [Act.put, K.put3])
  (refine wpD_plain 6 (v := (.pointer (some ⟨g, q * 3, none⟩))) rfl (by kernel_rfl) (by kernel_rfl) (by kernel_rfl) (fun _ _ _ h => h) (by rfl) ?_ (by assumption) ?_; (intro _w; go_simp; skip); simp only [Act.put, K.put3])
  clear hold FIN
  refine wpD_two 7 9 [] [] rfl rfl (by kernel_rfl) (by kernel_rfl) (by kernel_rfl) (by rfl) (by rfl) ?_ ?_
  · intro K7 hK7
    refine wp_storeV _ _ _ rfl g (q * 3) (.agg #[x', y', z']) [x', y', z'] rfl rfl rfl _ _ hBg (by simp; omega) infoN (by intro u hu; exact H1.out u hu) ?_
    intro w4 HB4 F4 HS4
    refine hK7 _ _ (Facts.nil_hold _) ?_
    simp only [Act.put, K.put3]
    refine wpD_only 9 [] rfl (by kernel_rfl) (by kernel_rfl) (by rfl) (fun K9 hK9 => ?_)
    have hB4 : Blk w4 bn 44 [.int .i64 t, .string ⟨#[]⟩, .slice va q vc] := hBb.fr F4.out (fun e => hgn e.symm)
    refine wp_storeV _ _ _ rfl bn 2 (.slice (some ⟨g, 0, none⟩) (q + 1) c7) [.slice (some ⟨g, 0, none⟩) (q + 1) c7] rfl rfl rfl _ _ hB4 (by simp) infoNs (by intro u hu; simp at hu; rcases hu with rfl; rfl) ?_
    intro w5 HB5 F5 HS5
    refine hK9 _ _ (Facts.nil_hold _) ?_
    refine wpD_done (by kernel_rfl) ?_ _
    go_end0
    refine ⟨rfl, HFIN.out w5 (by simpa [spl] using HB5.out) (own_fr (hset w4 HB4.out) F5.out (fun k hk e => by cases hk; exact hgn e)) ?_⟩
    exact (F4.out.mono fun k hk => .inr hk).trans' (F5.out.mono fun k hk => .inl hk)
  · intro K9 hK9
    refine wp_storeV _ _ _ rfl bn 2 (.slice (some ⟨g, 0, none⟩) (q + 1) c7) [.slice (some ⟨g, 0, none⟩) (q + 1) c7] rfl rfl rfl _ _ hBb (by simp) infoNs (by intro u hu; simp at hu; rcases hu with rfl; rfl) ?_
    intro w4 HB4 F4 HS4
    refine hK9 _ _ (Facts.nil_hold _) ?_
    simp only [Act.put, K.put3]
    refine wpD_only 7 [] rfl (by kernel_rfl) (by kernel_rfl) (by rfl) (fun K7 hK7 => ?_)
    have hB4 : Blk w4 g 44 cs := hBg.fr F4.out (fun e => hgn e)
    refine wp_storeV _ _ _ rfl g (q * 3) (.agg #[x', y', z']) [x', y', z'] rfl rfl rfl _ _ hB4 (by simp; omega) infoN (by intro u hu; exact H1.out u hu) ?_
    intro w5 HB5 F5 HS5
    refine hK7 _ _ (Facts.nil_hold _) ?_
    refine wpD_done (by kernel_rfl) ?_ _
    go_end0
    refine ⟨rfl, HFIN.out w5 (Blk.fr (by simpa [spl] using HB4.out) F5.out (fun e => hgn e.symm)) (hset w5 HB5.out) ?_⟩
    exact (F4.out.mono fun k hk => .inl hk).trans' (F5.out.mono fun k hk => .inr hk)
end Go.Proofs.Ythjmkfpdbbfcpaa.BE

namespace Go.Proofs.Ythjmkfpdbbfcpaa.BE
set_option maxRecDepth 100000
open Go.RowKit K

/-- An element whose children are being read. -/
structure KS (m base bn : Nat) (t : Int) (acc : List Nd) (v : Value) (L : List (List Value)) (w : World) : Prop where
  b : Blk w bn 44 [.int .i64 t, .string ⟨#[]⟩, v]
  r : w.ownsRow base 44 3 v acc.length L.flatten
  l : L.length = acc.length
  k : ∀ (j : Nat) (x : Nd) (c : List Value), acc[j]? = some x → L[j]? = some c → NdAt m (fun k => base ≤ k ∧ v.ownBlock ≠ some k) w x c
theorem KS.fr {m base bn : Nat} {t : Int} {acc : List Nd} {v : Value} {L : List (List Value)} {w w' : World} {D : Nat → Prop} (h : KS m base bn t acc v L w) (hf : Fr D w w') (hd : ∀ k, D k → k < base ∧ k ≠ bn) : KS m base bn t acc v L w' :=
  ⟨h.b.fr hf (fun e => (hd _ e).2 rfl), own_fr h.r hf (fun k hk e => by have := own_low h.r k hk; have := (hd k e).1; omega), h.l, fun j x c hx hc => NdAt.fr hf (fun k hk _ e => by have := (hd k e).1; have := hk.1; omega) (h.k j x c hx hc)⟩
theorem KS.no {m base bn : Nat} {t : Int} {acc : List Nd} {v : Value} {L : List (List Value)} {w w' : World} (h : KS m base bn t acc v L w) (hf : Fr No w w') : KS m base bn t acc v L w' := h.fr hf fun _ e => e.elim
theorem KS.step {m base bn : Nat} {t : Int} {acc : List Nd} {v : Value} {L : List (List Value)} {w w' : World} (h : KS m base bn t acc v L w) (hbn : bn < base) {N : Nat} {n : Nd} {cs : List Value} (hn : NdAt m (Since N) w n cs) (hN : base ≤ N) (hv : ∀ g, v.ownBlock = some g → g < N)
    {v' : Value} (hB : Blk w' bn 44 [.int .i64 t, .string ⟨#[]⟩, v']) (hr : w'.ownsRow base 44 3 v' (acc.length + 1) (L.flatten ++ cs)) (hf : Fr (fun k => k = bn ∨ v.ownBlock = some k ∨ v'.ownBlock = some k) w w')
    (ho : ∀ g, v'.ownBlock = some g → v.ownBlock = some g ∨ w.heap.size ≤ g) : KS m base bn t (acc ++ [n]) v' (L ++ [cs]) w' := by
  have key : ∀ (x : Nd) (c : List Value), NdAt m (fun k => base ≤ k ∧ v.ownBlock ≠ some k) w x c → NdAt m (fun k => base ≤ k ∧ v'.ownBlock ≠ some k) w' x c := fun x c hx => by
    have h1 : NdAt m (fun k => base ≤ k ∧ v.ownBlock ≠ some k ∧ v'.ownBlock ≠ some k) w x c := NdAt.mono (fun k hk hs => ⟨hs.1, hs.2, fun e => by
      rcases ho k e with h | h
      · exact hs.2 h
      · omega⟩) hx
    refine NdAt.mono (fun k _ hs => ⟨hs.1, hs.2.2⟩) (NdAt.fr hf (fun k hs _ e => ?_) h1)
    rcases e with e | e | e
    · have := hs.1; omega
    · exact hs.2.1 e
    · exact hs.2.2 e
  have kn : NdAt m (fun k => base ≤ k ∧ v.ownBlock ≠ some k) w n cs := NdAt.mono (fun k hk hs => ⟨Nat.le_trans hN hs, fun e => by have := hv k e; have hs : N ≤ k := hs; omega⟩) hn
  refine ⟨hB, ?_, by simp [h.l], fun j x c hx hc => ?_⟩
  · rw [List.length_append, List.flatten_append]
    simpa using hr
  · rcases Nat.lt_or_ge j acc.length with hj | hj
    · rw [List.getElem?_append_left hj] at hx
      rw [List.getElem?_append_left (by rw [h.l]; exact hj)] at hc
      exact key x c (h.k j x c hx hc)
    · have h0 : j - acc.length = 0 := by
        have := (List.getElem?_eq_some_iff.1 hx).1
        simp at this; omega
      rw [List.getElem?_append_right hj, h0] at hx
      rw [List.getElem?_append_right (by rw [h.l]; exact hj), h.l, h0] at hc
      obtain rfl : n = x := by simpa using hx
      obtain rfl : cs = c := by simpa using hc
      exact key n cs kn
/-- What read leaves. -/
def Reads (m : Nat) (s : B) (w : World) (e : Ending) (w' : World) : Prop := Fr No w w' ∧ match rd m s with
  | .error k => e = .panicked [fl k]
  | .ok (n, u) => ∃ cs, e = .returned (.tuple #[.agg cs.toArray, .int .i64 (u : Int)]) ∧ NdAt m (Since w.heap.size) w' n cs
/-- A contract of read, at a depth. -/
def ReadOk (m : Nat) : Prop := ∀ (s : B) (w : World), s.length ≤ 281474976710656 → Calls Try.prog 28 #[.string (sb s), .int .i64 ((9 - m : Nat) : Int)] w (Reads m s w)
def strAt (b : Nat) (w : World) : Nat := match w.cell? ⟨b, 0, none⟩ with
  | some (.string s) => s.size
  | _ => 0
theorem infoStr : (Try.prog.info? 9).map (·.size) = some 1 := by kernel_rfl
abbrev vis (bn : Nat) : Value := .func (.func 53) #[] #[.pointer (some ⟨bn, 0, none⟩)]
/-- What the reading of the children leaves, in the closure. -/
def KidsP (m bn b1 : Nat) (t : Int) (c : B) (o : Option Nat) (w1 w2 : World) : Prop := Fr (fun k => k = b1 ∨ k = bn) w1 w2 ∧ match o with
  | none => ∃ ks v L, kidsG (rd m) c.length c = .ok ks ∧ KS m w1.heap.size bn t ks v L w2
  | some k => kidsG (rd m) c.length c = .error k
set_option maxHeartbeats 8000000 in
theorem rc1_any (m bn b1 b2 b3 : Nat) (t : Int) (c : B) (w : World) (ih : ReadOk m) (h1 : Blk w b1 9 [.string (sb c)]) (h2 : Blk w b2 3 [.int .i64 ((9 - m : Nat) : Int)]) (h3 : Blk w b3 74 [vis bn]) (hn : Blk w bn 44 [.int .i64 t, .string ⟨#[]⟩, .slice none 0 0])
    (d12 : b1 ≠ b2) (d13 : b1 ≠ b3) (dn1 : bn ≠ b1) (dn2 : bn ≠ b2) (dn3 : bn ≠ b3) (hc : c.length ≤ 4000) :
    Calls Try.prog 83 #[.pointer (some ⟨b1, 0, none⟩), .pointer (some ⟨b2, 0, none⟩), .pointer (some ⟨b3, 0, none⟩)] w fun e w' => (e = .returned (.tuple #[]) ∧ KidsP m bn b1 t c none w w') ∨ ∃ k, e = .panicked [fl k] ∧ KidsP m bn b1 t c (some k) w w' := by
  have l1 := h1.lt; have l2 := h2.lt; have l3 := h3.lt; have ln := hn.lt
  have HIH := hid ih; have HH1 := hid h1; have HH2 := hid h2; have HH3 := hid h3; have HHN := hid hn
  have HD := hid (show b1 ≠ b2 ∧ b1 ≠ b3 ∧ bn ≠ b1 ∧ bn ≠ b2 ∧ bn ≠ b3 from ⟨d12, d13, dn1, dn2, dn3⟩)
  have HLT := hid (show b1 < w.heap.size ∧ b2 < w.heap.size ∧ b3 < w.heap.size ∧ bn < w.heap.size from ⟨l1, l2, l3, ln⟩)
  have HC := hid hc
  obtain ⟨dd, hdd⟩ : ∃ dd : Int, ((9 - m : Nat) : Int) = dd := ⟨_, rfl⟩
  have HDD := hid hdd
  rw [hdd] at HH2
  clear ih h1 h2 h3 hn d12 d13 dn1 dn2 dn3 hc l1 l2 l3 ln hdd
  go_enter Try.func83, Try.ntmps83
  go_wp2_with fail
  go_loopw [4] (fun _ wr => ∃ (r : B) (acc : List Nd) (v : Value) (L : List (List Value)) (k : Nat), Hid (Blk wr b1 9 [.string (sb r)]) ∧ Hid (KS m w.heap.size bn t acc v L wr) ∧ Hid (kidsG (rd m) c.length c = mapK acc (kidsG (rd m) k r)) ∧ Hid (r.length ≤ k ∧ acc.length * 2 + r.length ≤ 4000) ∧ Hid (Fr (fun k => k = b1 ∨ k = bn) w wr)) (fun _ wr => strAt b1 wr)
  case atStart => exact ⟨c, [], .slice none 0 0, [], c.length, HH1, hid ⟨HHN.out, World.ownsRow_nil _ _ _ _, rfl, fun j x c h => by simp at h⟩, hid (mapK_nil _).symm, hid ⟨Nat.le_refl _, by have := HC.out; simpa using this⟩, hid (Fr.refl _ _)⟩
  case round =>
    obtain ⟨r, acc, v, L, k, HB1, HKS, HK0, HL, HF⟩ := hrel
    have c1 : wr.cell? ⟨b1, 0, none⟩ = some (.string (sb r)) := HB1.out.cell 0
    have hsr := sb_empty r
    by_cases hr : r = []
    · subst hr
      have hse : (sb []).toList.isEmpty = true := by rw [hsr]; rfl
      clear hsr
      generalize hq : sb ([] : B) = q at *
      go_wp2_with fail
      go_end0
      refine .inl ⟨rfl, HF.out, acc, v, L, ?_, HKS.out⟩
      rw [HK0.out, mapK_done]
    · have hse : (sb r).toList.isEmpty = false := by rw [hsr]; cases r with
        | nil => exact absurd rfl hr
        | cons _ _ => rfl
      have HR := hid hr
      have c2 : wr.cell? ⟨b2, 0, none⟩ = some (.int .i64 dd) := (HH2.out.fr HF.out (fun e => e.elim (fun e => HD.out.1 e.symm) (fun e => HD.out.2.2.2.1 e.symm))).cell 0
      have hb3 : Blk wr b3 74 [vis bn] := HH3.out.fr HF.out (fun e => e.elim (fun e => HD.out.2.1 e.symm) (fun e => HD.out.2.2.2.2 e.symm))
      have HB3 := hid hb3
      have hrl : r.length ≤ 4000 := by have := HL.out; omega
      clear hsr hr hb3
      go_wp2_with fail
      have hih := HIH.out r wr (by omega)
      rw [HDD.out] at hih
      refine hih.mono ?_
      clear hih
      rintro e w2 ⟨f2, hm⟩
      cases hrd : rd m r with
      | error q =>
        rw [hrd] at hm
        simp only at hm
        subst hm
        refine ⟨rfl, .inr ⟨q, rfl, HF.out.trans' f2.no, ?_⟩⟩
        show kidsG (rd m) c.length c = .error q
        rw [HK0.out, mapK_err acc (rd m) HR.out HL.out.1 hrd]
      | ok p =>
        obtain ⟨n, u⟩ := p
        rw [hrd] at hm
        simp only at hm
        obtain ⟨cs, rfl, hn⟩ := hm
        obtain ⟨x', y', z', hcs⟩ := box_kid cs hn.len
        subst hcs
        have hui := rd_inv m r n u hrd
        have HU := hid (show 2 ≤ u ∧ u ≤ r.length from ⟨hui.2.2.2.2.1, hui.2.2.2.2.2⟩)
        obtain ⟨j, hkj, hstep⟩ := mapK_step acc (rd m) HR.out HL.out.1 hrd
        have HJ := hid hkj; have HST := hid hstep; have HN := hid hn; have HF2 := hid f2
        clear hui hkj hstep hn f2 hrd c1 c2 hse hrl
        go_wp2_with (first
          | ((with_reducible refine K.atO (.alloc 44) ?_); refine wpL_alloc rfl _ rfl _ zeroN [.int .i64 0, .string ⟨#[]⟩, .slice none 0 0] rfl ?_; intro w3 HB4 F3 HS3)
          | ((with_reducible refine K.atO (.store 44 _ _) ?_); refine wpL_storeV rfl _ _ _ rfl w2.heap.size 0 (.agg #[x', y', z']) [x', y', z'] rfl rfl rfl _ _ HB4.out (by simp) infoN (by intro u hu; exact HN.out.one u hu) ?_; intro w4 HB5 F4 HS4;
              have HB5c : Hid (Blk w4 w2.heap.size 44 [x', y', z']) := hid (by have h := HB5.out; rwa [spl_all (by simp)] at h);
              have HF24 : Hid (Fr No w2 w4) := hid (F3.out.trans F4.out (fun i e => .inr (by have e : i = w2.heap.size := e; omega)));
              have HFW : Hid (Fr No wr w4) := hid (HF2.out.trans' HF24.out);
              have c3 : w4.cell? ⟨b3, 0, none⟩ = some (vis bn) := (HB3.out.fr HFW.out id).cell 0)
          | ((with_reducible refine K.atO (.load 44 _) ?_); refine wpL_load rfl _ _ rfl w2.heap.size 0 rfl [x', y', z'] _ (HB5c.out.range 0 _ rfl) rfl rfl infoN ?_))
        have hks4 := HKS.out.no HFW.out
        refine (visit_any w.heap.size bn t v acc.length L.flatten [x', y', z'] w4 hks4.b hks4.r HLT.out.2.2.2 (Nat.le_trans HF.out.size HFW.out.size) (by have := HL.out; omega) rfl HN.out.one).mono ?_
        rintro e w5 ⟨rfl, v', hB5, hr5, f5, ho5⟩
        have hks5 : KS m w.heap.size bn t (acc ++ [n]) v' (L ++ [[x', y', z']]) w5 := hks4.step HLT.out.2.2.2 (HN.out.no HF24.out) HF.out.size (fun g hg => (own_ge HKS.out.r g hg).2) hB5 hr5 f5 ho5
        have HKS5 := hid hks5
        have hd5 : ∀ k, (k = bn ∨ v.ownBlock = some k ∨ v'.ownBlock = some k) → k = bn ∨ w.heap.size ≤ k := fun k hk => by
          rcases hk with h | h | h
          · exact .inl h
          · exact .inr (own_low HKS.out.r k h)
          · exact .inr (own_low hr5 k h)
        have hb15 : Blk w5 b1 9 [.string (sb r)] := (HB1.out.fr HFW.out id).fr f5 (fun e => by
          rcases hd5 b1 e with h | h
          · exact HD.out.2.2.1 h.symm
          · have := HLT.out.1; omega)
        have HB15 := hid hb15
        have c15 : w5.cell? ⟨b1, 0, none⟩ = some (.string (sb r)) := hb15.cell 0
        have hf5 : Fr (fun k => k = b1 ∨ k = bn) w w5 := (HF.out.trans' HFW.out.no).trans f5 (fun k hk => (hd5 k hk).elim (fun e => .inl (.inr e)) .inr)
        have HF5 := hid hf5
        clear hks4 hks5 hB5 hr5 f5 ho5 hd5 hb15 hf5 c3
        go_wp2_with (first
          | ((with_reducible refine K.atO (.slice 9 _ _ _ _) ?_); refine wpL_valZ rfl (.string (sb (r.drop u))) (exec_from _ _ rfl r u rfl rfl HU.out.2 _ rfl _) ?_)
          | ((with_reducible refine K.atO (.store 9 _ _) ?_); refine wpL_setV rfl _ _ _ rfl b1 0 (.string (sb (r.drop u))) rfl rfl rfl rfl _ _ HB15.out (by simp) infoStr ?_; intro w6 HB6 F6 HS6))
        have hks6 : KS m w.heap.size bn t (acc ++ [n]) v' (L ++ [[x', y', z']]) w6 := HKS5.out.fr F6.out (fun k hk => by have e : k = b1 := hk; have := HLT.out.1; exact ⟨by omega, fun h => HD.out.2.2.1 (h.symm.trans e)⟩)
        have hst : strAt b1 wr = r.length := by
          unfold strAt
          rw [HB1.out.cell 0]
          exact sb_size r
        have hst6 : strAt b1 w6 = r.length - u := by
          unfold strAt
          rw [HB6.out.cell 0]
          show (sb (r.drop u)).size = _
          rw [sb_size, List.length_drop]
        go_roundw
        case rel =>
          have hl := HL.out; have hu := HU.out; have hj := HJ.out
          refine ⟨_, _, _, _, _, _, _, _, _, _, _, _, _, _, _, _, ⟨r.drop u, acc ++ [n], v', L ++ [[x', y', z']], j, hid HB6.out, hid hks6, hid (HK0.out.trans HST.out), hid ⟨by rw [List.length_drop]; omega, by rw [List.length_append, List.length_drop]; simp only [List.length_cons, List.length_nil]; omega⟩, hid (HF5.out.trans' (F6.out.mono fun k hk => .inl hk))⟩, rfl⟩
        case measure =>
          have hu := HU.out
          rw [hst, hst6]; omega
end Go.Proofs.Ythjmkfpdbbfcpaa.BE

namespace Go.Proofs.Ythjmkfpdbbfcpaa.ME
set_option maxRecDepth 100000
open Go.RowKit K Go.Proofs.Ythjmkfpdbbfcpaa.BE Go.Proofs.Ythjmkfpdbbfcpaa.FR

theorem leaf_any (M : Nat) (S : Nat → Prop) (w : World) (t : Int) (b : B) (ht : I64 t) (hb : Sz b) : NdAt (M + 1) S w (.mk t b []) [.int .i64 t, .string (sb b), .slice none 0 0] :=
  ⟨none, 0, rfl, ht, hb, Nat.zero_le _, .inl rfl⟩
theorem own_cap {w : World} {base : Nat} {e : TypeId} {size : Nat} {a : Option Addr} {m cap n : Nat} {xs : List Value} (h : w.ownsRow base e size (.slice a m cap) n xs) : n ≤ cap := by
  rcases h.2 with ⟨h1, h0⟩ | ⟨g, cap', cur, h1, _, _, h2, _⟩
  · have h0 : n = 0 := h0
    omega
  · simp only [Value.slice.injEq] at h1
    omega
/-- A piece is told, made since. -/
def Makes (M : Nat) (n : Nd) (w : World) (e : Ending) (w' : World) : Prop := ∃ cs, e = .returned (.agg cs.toArray) ∧ NdAt M (Since w.heap.size) w' n cs ∧ Fr No w w'
theorem ks_nd {m base bn : Nat} {t : Int} {acc : List Nd} {v : Value} {L : List (List Value)} {w : World} (h : KS m base bn t acc v L w) (ht : I64 t) (hl : acc.length ≤ 140737488351232) : NdAt (m + 1) (Since base) w (.mk t [] acc) [.int .i64 t, .string (sb []), v] := by
  obtain ⟨a, cap, hv, -, hg⟩ := own_form h.r
  have hr0 := h.r
  rw [hv] at hr0
  refine ⟨a, cap, by rw [hv]; rfl, ht, by show (0 : Nat) ≤ _; omega, Nat.le_min.2 ⟨own_cap hr0, hl⟩, ?_⟩
  by_cases h0 : acc = []
  · exact .inl h0
  · right
    have hpos : 0 < acc.length := by
      rcases Nat.eq_zero_or_pos acc.length with h1 | h1
      · exact absurd (List.eq_nil_of_length_eq_zero h1) h0
      · exact h1
    obtain ⟨g, rfl⟩ := hg hpos
    have hgw := own_ge h.r g (by rw [hv]; rfl)
    refine ⟨g, 0, L, rfl, hgw.1, hgw.2, ?_, h.l, fun j x c hx hc => NdAt.mono (fun k _ hk => hk.1) (h.k j x c hx hc)⟩
    intro j u hj
    have := h.r.cells (g := g) (by rw [hv]; rfl) j u hj
    rwa [Addr.add_mid] at this
/-- A slice literal, as one operation of a region, out of a closed fact. -/
theorem wp_buildRun {P : Program} {op : Oper} {a : Act} {w : World} {K : Act → World → Prop} {Q : Exit → Act → World → Prop} (t e : TypeId) (n : Nat) (parts : List (Nat × Operand)) (ho : op.op = .buildSlice t n parts.toArray) (cs : List Value)
    (hrun : (Instr.buildSlice t n (parts.map fun x => (x.1, a.eval x.2)).toArray).run P w = .ok (.slice (some ⟨w.heap.size, 0, none⟩) n n) (w.alloc (.cells cs.toArray e)))
    (h : ∀ w', Hid (Blk w' w.heap.size e cs) → Hid (Fr No w w') → Hid (w'.heap.size = w.heap.size + 1) → K (a.put op.dst (.slice (some ⟨w.heap.size, 0, none⟩) n n)) w') : op.wp P a w K Q := by
  unfold Oper.wp
  have h1 := h (w.alloc (.cells cs.toArray e)) (hid (Blk.new w e cs)) (hid ((Fr.refl _ _).alloc _)) (hid (by simp))
  simp [execOp, ho, hrun, Result.andThen]
  exact h1
/-- A piece of several kids that lie in one block. -/
theorem nd_kids {M : Nat} {S : Nat → Prop} {w : World} {t : Int} {kids : List Nd} {g : Nat} {ty : TypeId} {L : List (List Value)} (ht : I64 t) (hB : Blk w g ty L.flatten) (hg : S g) (hl : L.length = kids.length) (hk : kids.length ≤ 140737488351232) (h : ∀ (j : Nat) (x : Nd) (c : List Value), kids[j]? = some x → L[j]? = some c → NdAt M S w x c) :
    NdAt (M + 1) S w (.mk t [] kids) [.int .i64 t, .string (sb []), .slice (some ⟨g, 0, none⟩) kids.length kids.length] :=
  ⟨_, _, rfl, ht, by show (0 : Nat) ≤ _; omega, Nat.le_min.2 ⟨Nat.le_refl _, hk⟩, .inr ⟨g, 0, L, rfl, hg, hB.lt, hB.range 0 _ (by rw [List.drop_zero, List.take_length]), hl, h⟩⟩
theorem since_le {M N N' : Nat} {w : World} {n : Nd} {cs : List Value} (h : NdAt M (Since N) w n cs) (hN : N' ≤ N) : NdAt M (Since N') w n cs := NdAt.mono (fun k _ hk => Nat.le_trans hN hk) h
theorem sbE (l : B) : (sb l).toList.isEmpty = l.isEmpty := by rw [ByteArray.toList_eq, sb_list]
theorem FlC.succ {M : Nat} {S : Nat → Prop} {w : World} {f : Fl} {cs : List Value} (h : FlC M S w f cs) : ∃ k, M = k + 1 := by
  cases M with
  | zero => exact h.elim
  | succ k => exact ⟨k, rfl⟩
end Go.Proofs.Ythjmkfpdbbfcpaa.ME

namespace Go.Proofs.Ythjmkfpdbbfcpaa.ME
set_option maxRecDepth 100000
open Go.RowKit K Go.Proofs.Ythjmkfpdbbfcpaa.BE Go.Proofs.Ythjmkfpdbbfcpaa.FR

theorem txin_monoS {w : World} {E E' : Nat → Prop} {v : Value} {L : List B} (h : TxIn w E v L) (he : ∀ k, k < w.heap.size → E k → E' k) : TxIn w E' v L := by
  obtain ⟨a, len, cap, h1, h2, h0, h3⟩ := h
  exact ⟨a, len, cap, h1, h2, h0, h3.imp id fun ⟨g, o, r1, r2, r3, r4⟩ => ⟨g, o, r1, he g r3 r2, r3, r4⟩⟩
theorem Tx.monoS {w : World} {E E' : Nat → Prop} {v : Value} {L : List B} (h : Tx E w v L) (he : ∀ k, k < w.heap.size → E k → E' k) : Tx E' w v L := ⟨txin_monoS h.1 he, h.2⟩
theorem FlC.monoS {w : World} {S S' : Nat → Prop} (hs : ∀ k, k < w.heap.size → S k → S' k) : ∀ {M : Nat} {f : Fl} {cs : List Value}, FlC M S w f cs → FlC M S' w f cs
  | 0, _, _, h => h.elim
  | M + 1, f, cs, h => by
    obtain ⟨vk, va, h1, h2, h3, h4, h5, h6, h7, a, cap, e1, e2, e3, e4⟩ := h
    refine ⟨vk, va, h1, h2, h3, h4, h5, h6, h7.monoS hs, a, cap, e1, e2, e3, e4.imp id ?_⟩
    rintro ⟨g, o, L, r1, r2, r3, r4, r5, r6, r7⟩
    exact ⟨g, o, L, r1, hs g r3 r2, r3, r4, r5, r6, fun j x c hx hc => FlC.monoS hs (r7 j x c hx hc)⟩
theorem FlC.len {M : Nat} {S : Nat → Prop} {w : World} {f : Fl} {cs : List Value} (h : FlC M S w f cs) : cs.length = 7 := by
  cases M with
  | zero => exact h.elim
  | succ M => obtain ⟨_, _, rfl, _⟩ := h; rfl
theorem FlC.one {M : Nat} {S : Nat → Prop} {w : World} {f : Fl} {cs : List Value} (h : FlC M S w f cs) : ∀ u ∈ cs, u.oneCell' = true := by
  cases M with
  | zero => exact h.elim
  | succ M =>
    obtain ⟨vk, va, rfl, -, -, -, -, -, ht, hs⟩ := h
    obtain ⟨_, _, rfl, -, -⟩ := ht.form
    obtain ⟨_, _, rfl, -, -⟩ := hs.form
    intro u hu
    simp at hu
    rcases hu with rfl | rfl | rfl | rfl | rfl | rfl | rfl <;> rfl
structure FS (M base bn : Nat) (k : Int) (acc : List Fl) (v : Value) (L : List (List Value)) (w : World) : Prop where
  b : Blk w bn 25 [.int .i64 k, v, .string ⟨#[]⟩, .string ⟨#[]⟩, .string ⟨#[]⟩, .slice none 0 0, .string ⟨#[]⟩]
  r : w.ownsRow base 25 7 v acc.length L.flatten
  l : L.length = acc.length
  s : ∀ c ∈ L, c.length = 7
  k : ∀ (j : Nat) (x : Fl) (c : List Value), acc[j]? = some x → L[j]? = some c → FlC M (fun k => base ≤ k ∧ v.ownBlock ≠ some k) w x c
theorem FS.fr {M base bn : Nat} {t : Int} {acc : List Fl} {v : Value} {L : List (List Value)} {w w' : World} {D : Nat → Prop} (h : FS M base bn t acc v L w) (hf : Fr D w w') (hd : ∀ k, D k → k < base ∧ k ≠ bn) : FS M base bn t acc v L w' :=
  ⟨h.b.fr hf (fun e => (hd _ e).2 rfl), own_fr h.r hf (fun k hk e => by have := own_low h.r k hk; have := (hd k e).1; omega), h.l, h.s, fun j x c hx hc => FlC.fr hf (fun k hk _ e => by have := (hd k e).1; have := hk.1; omega) (h.k j x c hx hc)⟩
theorem FS.no {M base bn : Nat} {t : Int} {acc : List Fl} {v : Value} {L : List (List Value)} {w w' : World} (h : FS M base bn t acc v L w) (hf : Fr No w w') : FS M base bn t acc v L w' := h.fr hf fun _ e => e.elim
theorem FS.step {M base bn : Nat} {t : Int} {acc : List Fl} {v : Value} {L : List (List Value)} {w w' : World} (h : FS M base bn t acc v L w) (hbn : bn < base) {N : Nat} {n : Fl} {cs : List Value} (hn : FlC M (Since N) w n cs) (hN : base ≤ N) (hv : ∀ g, v.ownBlock = some g → g < N)
    {v' : Value} (hB : Blk w' bn 25 [.int .i64 t, v', .string ⟨#[]⟩, .string ⟨#[]⟩, .string ⟨#[]⟩, .slice none 0 0, .string ⟨#[]⟩]) (hr : w'.ownsRow base 25 7 v' (acc.length + 1) (L.flatten ++ cs)) (hf : Fr (fun k => k = bn ∨ v.ownBlock = some k ∨ v'.ownBlock = some k) w w')
    (ho : ∀ g, v'.ownBlock = some g → v.ownBlock = some g ∨ w.heap.size ≤ g) : FS M base bn t (acc ++ [n]) v' (L ++ [cs]) w' := by
  have key : ∀ (x : Fl) (c : List Value), FlC M (fun k => base ≤ k ∧ v.ownBlock ≠ some k) w x c → FlC M (fun k => base ≤ k ∧ v'.ownBlock ≠ some k) w' x c := fun x c hx => by
    have h1 : FlC M (fun k => base ≤ k ∧ v.ownBlock ≠ some k ∧ v'.ownBlock ≠ some k) w x c := FlC.monoS (fun k hk hs => ⟨hs.1, hs.2, fun e => by
      rcases ho k e with h | h
      · exact hs.2 h
      · omega⟩) hx
    refine FlC.monoS (fun k _ hs => ⟨hs.1, hs.2.2⟩) (FlC.fr hf (fun k hs _ e => ?_) h1)
    rcases e with e | e | e
    · have := hs.1; omega
    · exact hs.2.1 e
    · exact hs.2.2 e
  have kn : FlC M (fun k => base ≤ k ∧ v.ownBlock ≠ some k) w n cs := FlC.monoS (fun k hk hs => ⟨Nat.le_trans hN hs, fun e => by have := hv k e; have hs : N ≤ k := hs; omega⟩) hn
  refine ⟨hB, ?_, by simp [h.l], fun c hc => ?_, fun j x c hx hc => ?_⟩
  · rw [List.length_append, List.flatten_append]
    simpa using hr
  · rcases List.mem_append.1 hc with hc | hc
    · exact h.s c hc
    · obtain rfl : c = cs := by simpa using hc
      exact hn.len
  · rcases Nat.lt_or_ge j acc.length with hj | hj
    · rw [List.getElem?_append_left hj] at hx
      rw [List.getElem?_append_left (by rw [h.l]; exact hj)] at hc
      exact key x c (h.k j x c hx hc)
    · have h0 : j - acc.length = 0 := by
        have := (List.getElem?_eq_some_iff.1 hx).1
        simp at this; omega
      rw [List.getElem?_append_right hj, h0] at hx
      rw [List.getElem?_append_right (by rw [h.l]; exact hj), h.l, h0] at hc
      obtain rfl : n = x := by simpa using hx
      obtain rfl : cs = c := by simpa using hc
      exact key n cs kn
end Go.Proofs.Ythjmkfpdbbfcpaa.ME
