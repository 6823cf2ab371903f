/-
  Part 13 of the proof: DnSr, DnMg, DnBl.
-/
import Derived.Test.YtnjemnmhkhkpeaaDoorDo12
import Derived.Test.YtnjemnmhkhkpeaaDoorDo11
import Derived.Deep.DeepCutAuto
set_option linter.unusedSimpArgs false
set_option linter.unusedVariables false
namespace Go.Proofs.YtnjemnmhkhkpeaaDoor.DN
set_option maxRecDepth 100000
open Go.RowKit K Go.Proofs.YtnjemnmhkhkpeaaDoor.BE
set_option maxHeartbeats 16000000 in
theorem symLast_any (g N cap : Nat) (A Q C : Rd) (x : Av) (z : List Value) (w : World) (hN : (A ++ Q ++ x :: C).length = N) (hc : N ≤ cap) (hB : Blk w g 37 (avs (A ++ Q ++ x :: C) ++ z)) (hl : N ≤ 1048576) (hs : Sd Q) (a n : Nat) (ha : A.length = a) (hn : Q.length = n) (hn2 : 2 ≤ n) :
    Calls Tryd.prog 53 #[.slice (some ⟨g, 0, none⟩) N cap, .int .i64 (a : Int), .int .i64 ((a + n : Nat) : Int), .int .i64 ((a + n + 1 : Nat) : Int), .func (.func 31) #[] #[]] w fun e w' => (∃ v, e = .returned v) ∧ Blk w' g 37 (avs (A ++ srt (Q ++ [x]) ++ C) ++ z) ∧ Fr (fun k => k = g) w w' := by
  have HB0 := hid hB
  have HSD := hid hs
  have HLN := hid (show A.length = a ∧ Q.length = n ∧ a + n + 1 + C.length = N ∧ N ≤ cap ∧ N ≤ 1048576 from ⟨ha, hn, by simp at hN; omega, hc, hl⟩)
  obtain ⟨m, hm⟩ : ∃ m, a + n = m := ⟨_, rfl⟩
  obtain ⟨b, hb⟩ : ∃ b, m + 1 = b := ⟨_, rfl⟩
  have HM := hid (show a + n = m ∧ m + 1 = b from ⟨hm, hb⟩)
  rw [hm, hb]
  have hma : ((m : Int) - a == 1) = false := by rw [beq_eq_false_iff_ne]; omega
  have hbm : (b : Int) - m = 1 := by omega
  have hmi : (m : Int) ≤ 1048576 := by have := HLN.out; omega
  have haI : (a : Int) ≤ 1048576 := by have := HLN.out; omega
  have hbi : (b : Int) ≤ 1048576 := by have := HLN.out; omega
  have hm0 : (0 : Int) ≤ m := by omega
  have ha0 : (0 : Int) ≤ a := by omega
  clear hB hN hc hl hs ha hn hm hb hn2
  go_enter Tryd.func53, Tryd.ntmps53
  go_wp2_with fail
  go_loopw [14, 15] (fun iv jv wr => ∃ (i j : Nat), iv = .int .i64 ((a + i : Nat) : Int) ∧ jv = .int .i64 ((a + j : Nat) : Int) ∧ i ≤ j ∧ j ≤ n ∧ Hid ((∀ t q, t < i → Q[t]? = some q → ltB x.1 q.1 = false) ∧ (∀ t q, j ≤ t → Q[t]? = some q → ltB x.1 q.1 = true)) ∧ Hid (Fr No w wr)) (fun iv jv _ => (intOf jv).toNat - (intOf iv).toNat)
  case atStart => exact ⟨0, n, by simp, by rw [HM.out.1], Nat.zero_le _, Nat.le_refl _, hid ⟨fun t q h _ => by omega, fun t q h hq => by have := (List.getElem?_eq_some_iff.1 hq).1; have := HLN.out; omega⟩, hid (Fr.refl _ _)⟩
  case round =>
    obtain ⟨i, j, rfl, rfl, hij, hj, HS, HF⟩ := hrel
    obtain ⟨I, hI⟩ : ∃ I, a + i = I := ⟨_, rfl⟩
    obtain ⟨J, hJ⟩ : ∃ J, a + j = J := ⟨_, rfl⟩
    rw [hI, hJ]
    by_cases hlt : I < J
    · have hlti : (I : Int) < J := by omega
      have hI0 : (0 : Int) ≤ I := by omega
      have hJb : (J : Int) ≤ 1048576 := by have := HM.out; omega
      obtain ⟨H, hH⟩ : ∃ H, (I + J) / 2 = H := ⟨_, rfl⟩
      have hIH : ((I : Int) + J) / 2 = (H : Int) := by omega
      have hHI : I ≤ H := by omega
      have hHJ : H < J := by omega
      obtain ⟨t, ht⟩ : ∃ t, a + t = H := ⟨H - a, by omega⟩
      have htn : t < n := by omega
      obtain ⟨q, hq⟩ : ∃ q, Q[t]? = some q := ⟨_, List.getElem?_eq_getElem (by have := HLN.out; omega)⟩
      have hqs : Q.take t ++ q :: Q.drop (t + 1) = Q := by
        obtain ⟨h1, rfl⟩ := List.getElem?_eq_some_iff.1 hq
        rw [← List.drop_eq_getElem_cons h1, List.take_append_drop]
      have hBw := HB0.out.fr HF.out id
      have hr1 : wr.rangeAt g (H * 2) [.string (sb q.1), .string (sb q.2)] := by
        have h : Blk wr g 37 (avs ((A ++ Q.take t) ++ q :: (Q.drop (t + 1) ++ x :: C)) ++ z) := by
          have h := hBw
          rw [← hqs] at h
          simpa using h
        have := avs_range h
        rwa [show (A ++ Q.take t).length = H by have := HLN.out; have := HM.out; simp; omega] at this
      have hr2 : wr.rangeAt g (m * 2) [.string (sb x.1), .string (sb x.2)] := by
        have := avs_range hBw
        rwa [show (A ++ Q).length = m by have := HLN.out; have := HM.out; simp; omega] at this
      have HCMP := hid (fun w => cmp_any x q w)
      have hcl := cmp_lt x.1 q.1
      obtain ⟨cv, hcv⟩ : ∃ cv : Int, Lib.compareBytes x.1 q.1 = cv := ⟨_, rfl⟩
      rw [hcv] at hcl HCMP
      have HQ := hid hq
      have HT := hid (show a + i = I ∧ a + j = J ∧ a + t = H ∧ i ≤ t ∧ t < j ∧ j ≤ n from ⟨hI, hJ, ht, by omega, by omega, hj⟩)
      have hmN : (m : Int) < N := by have := HLN.out; have := HM.out; omega
      have hH0 : (0 : Int) ≤ H := by omega
      have hHN : (H : Int) < N := by have := HLN.out; have := HM.out; omega
      clear hH hHI hHJ ht htn hq hqs hBw hcv hI hJ hij hj hlt
      go_wp2_with fail
      try rw [hIH]
      cases hlb : ltB x.1 q.1 with
      | false =>
        have HCL : Hid (decide (cv < 0) = false) := hid (by rw [hcl, hlb])
        have HLB := hid hlb
        clear hcl hlb
        have hold : Facts.hold [(4, fun w' => w'.rangeAt g (m * 2) [.string (sb x.1), .string (sb x.2)]), (8, fun w' => w'.rangeAt g (H * 2) [.string (sb q.1), .string (sb q.2)])] wr.drew := Facts.cons_hold hr2 (Facts.cons_hold hr1 (Facts.nil_hold _))
        refine wpD_region hold (by kernel_rfl) 12 rfl ?_
        (refine K.pl 0 (v := ?_) rfl ?_ ?_; rotate_left; (intro _w; go_simp; try with_reducible rfl); simp only [Act.put, K.put3])
        (refine K.pl 1 (v := ?_) rfl ?_ ?_; rotate_left; (intro _w; go_simp; try with_reducible rfl); simp only [Act.put, K.put3])
        (refine K.pl 2 (v := ?_) rfl ?_ ?_; rotate_left; (intro _w; go_simp; try with_reducible rfl); simp only [Act.put, K.put3])
        (refine K.pl 3 (v := (.pointer (some ⟨g, m * 2, none⟩))) rfl ?_ ?_; (intro _w; go_simp; skip); simp only [Act.put, K.put3])
        (refine K.tk 4 _ rfl K.m0 (exec_load _ _ rfl g (m * 2) rfl _ _ rfl rfl infoAv) ?_; simp only [Act.put, K.put3])
        (refine K.pl 5 (v := ?_) rfl ?_ ?_; rotate_left; (intro _w; go_simp; try with_reducible rfl); simp only [Act.put, K.put3])
        (refine K.pl 6 (v := ?_) rfl ?_ ?_; rotate_left; (intro _w; go_simp; try with_reducible rfl); simp only [Act.put, K.put3])
        (refine K.pl 7 (v := (.pointer (some ⟨g, H * 2, none⟩))) rfl ?_ ?_; (intro _w; go_simp; skip); simp only [Act.put, K.put3])
        (refine K.tk 8 _ rfl K.m1 (exec_load _ _ rfl g (H * 2) rfl _ _ rfl rfl infoAv) ?_; simp only [Act.put, K.put3])
        clear hold
        refine K.on 9 [] rfl (fun K9 hK9 => ?_)
        refine wp_call _ _ _ rfl 31 [] rfl (fun vs w => by kernel_rfl) [.agg #[.string (sb x.1), .string (sb x.2)], .agg #[.string (sb q.1), .string (sb q.2)]] (by rfl) ?_
        refine (HCMP.out wr.drew).mono ?_
        rintro e w3 ⟨rfl, f3⟩
        have HF3 : Hid (Fr No w w3) := hid (HF.out.drew.trans' f3)
        refine ⟨_, rfl, hK9 _ _ (Facts.nil_hold _) ?_⟩
        clear hK9 K9 f3
        simp only [Act.put, K.put3]
        have hold : Facts.hold [] w3 := Facts.nil_hold _
        (refine K.pl 10 (v := (.bool false)) rfl ?_ ?_; (intro _w; exact exec_lssI _ _ _ _ rfl .i64 cv 0 rfl rfl _ HCL.out _w); simp only [Act.put, K.put3])
        (refine K.pl 11 (v := ?_) rfl ?_ ?_; rotate_left; (intro _w; go_simp; try with_reducible rfl); simp only [Act.put, K.put3])
        clear hold
        refine wpD_done (by kernel_rfl) ?_ _
        go_wp2_with fail
        refine ⟨⟨t + 1, j, by have := HT.out; rw [show a + (t + 1) = H + 1 by omega]; push_cast; rfl, by rw [HT.out.2.1], by have := HT.out; omega, HT.out.2.2.2.2.2, hid ⟨fun t' q' ht' hq' => ?_, HS.out.2⟩, HF3⟩, ?_⟩
        · have hle : t' ≤ t := by omega
          rcases Nat.lt_or_ge t' t with hlt | hge
          · exact le_trans (sd_get HSD.out hlt hq' HQ.out) HLB.out
          · obtain rfl : t' = t := by omega
            rw [HQ.out] at hq'
            obtain rfl := Option.some.inj hq'
            exact HLB.out
        · have := HT.out
          simp [intOf]; omega
      | true =>
        have HCL : Hid (decide (cv < 0) = true) := hid (by rw [hcl, hlb])
        have HLB := hid hlb
        clear hcl hlb
        have hold : Facts.hold [(4, fun w' => w'.rangeAt g (m * 2) [.string (sb x.1), .string (sb x.2)]), (8, fun w' => w'.rangeAt g (H * 2) [.string (sb q.1), .string (sb q.2)])] wr.drew := Facts.cons_hold hr2 (Facts.cons_hold hr1 (Facts.nil_hold _))
        refine wpD_region hold (by kernel_rfl) 12 rfl ?_
        (refine K.pl 0 (v := ?_) rfl ?_ ?_; rotate_left; (intro _w; go_simp; try with_reducible rfl); simp only [Act.put, K.put3])
        (refine K.pl 1 (v := ?_) rfl ?_ ?_; rotate_left; (intro _w; go_simp; try with_reducible rfl); simp only [Act.put, K.put3])
        (refine K.pl 2 (v := ?_) rfl ?_ ?_; rotate_left; (intro _w; go_simp; try with_reducible rfl); simp only [Act.put, K.put3])
        (refine K.pl 3 (v := (.pointer (some ⟨g, m * 2, none⟩))) rfl ?_ ?_; (intro _w; go_simp; skip); simp only [Act.put, K.put3])
        (refine K.tk 4 _ rfl K.m0 (exec_load _ _ rfl g (m * 2) rfl _ _ rfl rfl infoAv) ?_; simp only [Act.put, K.put3])
        (refine K.pl 5 (v := ?_) rfl ?_ ?_; rotate_left; (intro _w; go_simp; try with_reducible rfl); simp only [Act.put, K.put3])
        (refine K.pl 6 (v := ?_) rfl ?_ ?_; rotate_left; (intro _w; go_simp; try with_reducible rfl); simp only [Act.put, K.put3])
        (refine K.pl 7 (v := (.pointer (some ⟨g, H * 2, none⟩))) rfl ?_ ?_; (intro _w; go_simp; skip); simp only [Act.put, K.put3])
        (refine K.tk 8 _ rfl K.m1 (exec_load _ _ rfl g (H * 2) rfl _ _ rfl rfl infoAv) ?_; simp only [Act.put, K.put3])
        clear hold
        refine K.on 9 [] rfl (fun K9 hK9 => ?_)
        refine wp_call _ _ _ rfl 31 [] rfl (fun vs w => by kernel_rfl) [.agg #[.string (sb x.1), .string (sb x.2)], .agg #[.string (sb q.1), .string (sb q.2)]] (by rfl) ?_
        refine (HCMP.out wr.drew).mono ?_
        rintro e w3 ⟨rfl, f3⟩
        have HF3 : Hid (Fr No w w3) := hid (HF.out.drew.trans' f3)
        refine ⟨_, rfl, hK9 _ _ (Facts.nil_hold _) ?_⟩
        clear hK9 K9 f3
        simp only [Act.put, K.put3]
        have hold : Facts.hold [] w3 := Facts.nil_hold _
        (refine K.pl 10 (v := (.bool true)) rfl ?_ ?_; (intro _w; exact exec_lssI _ _ _ _ rfl .i64 cv 0 rfl rfl _ HCL.out _w); simp only [Act.put, K.put3])
        (refine K.pl 11 (v := ?_) rfl ?_ ?_; rotate_left; (intro _w; go_simp; try with_reducible rfl); simp only [Act.put, K.put3])
        clear hold
        refine wpD_done (by kernel_rfl) ?_ _
        go_wp2_with fail
        refine ⟨⟨i, t, by rw [HT.out.1], by rw [HT.out.2.2.1], HT.out.2.2.2.1, by have := HT.out; omega, hid ⟨HS.out.1, fun t' q' ht' hq' => ?_⟩, HF3⟩, ?_⟩
        · rcases Nat.lt_or_ge t t' with hlt | hge
          · have h1 := sd_get HSD.out hlt HQ.out hq'
            cases hx : ltB x.1 q'.1 with
            | true => rfl
            | false =>
              have := le_trans h1 hx
              rw [HLB.out] at this
              cases this
          · obtain rfl : t' = t := by omega
            rw [HQ.out] at hq'
            obtain rfl := Option.some.inj hq'
            exact HLB.out
        · have := HT.out
          simp [intOf]; omega
    · have hii : i = j := by omega
      subst hii
      have hsr : srt (Q ++ [x]) = Q.take i ++ x :: Q.drop i := by
        have h := srt_one_right (y := x) (P1 := Q.take i) (P2 := Q.drop i) (fun q hq => by
          obtain ⟨t, ht, rfl⟩ := List.mem_iff_getElem.1 hq
          rw [List.length_take] at ht
          exact HS.out.1 t _ (by omega) (by rw [List.getElem_take, List.getElem?_eq_getElem (by omega)]))
          (fun q hq => by
          obtain ⟨t, ht, rfl⟩ := List.mem_iff_getElem.1 hq
          rw [List.length_drop] at ht
          exact HS.out.2 (i + t) _ (by omega) (by rw [List.getElem_drop, List.getElem?_eq_getElem (by omega)]))
          (by rw [List.take_append_drop]; exact HSD.out)
        rwa [List.take_append_drop] at h
      have HSR := hid hsr
      have HII := hid (show a + i = I ∧ i ≤ n from ⟨hI, hj⟩)
      obtain rfl : I = J := by omega
      have hIb : (I : Int) ≤ 1048576 := by have := HM.out; have := HII.out; omega
      clear hsr hI hJ hij hj hlt HS
      go_wp2_with fail
      obtain ⟨W0, hW0⟩ : ∃ W0, wr = W0 := ⟨_, rfl⟩
      rw [hW0] at HF ⊢
      clear hW0
      go_loopw [17] (fun kv wr2 => ∃ (t : Nat), kv = .int .i64 ((a + t : Nat) : Int) ∧ i ≤ t ∧ t ≤ n ∧ Hid (Blk wr2 g 37 (avs ((A ++ Q.take t) ++ x :: (Q.drop t ++ C)) ++ z) ∧ Fr (fun k => k = g) w wr2)) (fun kv _ => (intOf kv).toNat)
      case atStart => exact ⟨n, by rw [HM.out.1], HII.out.2, Nat.le_refl _, hid ⟨by have h := HB0.out.fr HF.out id; rw [List.take_of_length_le (by have := HLN.out; omega), List.drop_of_length_le (by have := HLN.out; omega)]; simpa using h, HF.out.no⟩⟩
      case round =>
        obtain ⟨t, rfl, hit, htn, HJ⟩ := hrel
        obtain ⟨k, hk⟩ : ∃ k, a + t = k := ⟨_, rfl⟩
        rw [hk]
        by_cases hlt : i < t
        · have hlti : (I : Int) < k := by have := HII.out; omega
          obtain ⟨s, rfl⟩ : ∃ s, t = s + 1 := ⟨t - 1, by omega⟩
          obtain ⟨q, hq⟩ : ∃ q, Q[s]? = some q := ⟨_, List.getElem?_eq_getElem (by have := HLN.out; have := HII.out; omega)⟩
          have hdq : Q.drop s = q :: Q.drop (s + 1) := by
            obtain ⟨h1, rfl⟩ := List.getElem?_eq_some_iff.1 hq
            exact List.drop_eq_getElem_cons h1
          have htq : Q.take (s + 1) = Q.take s ++ [q] := by rw [List.take_add_one, hq]; rfl
          obtain ⟨P, hP⟩ : ∃ P, A ++ Q.take s = P := ⟨_, rfl⟩
          obtain ⟨D, hD⟩ : ∃ D, Q.drop (s + 1) ++ C = D := ⟨_, rfl⟩
          obtain ⟨k1, hk1⟩ : ∃ k1, a + s = k1 := ⟨_, rfl⟩
          have hPl : P.length = k1 := by rw [← hP]; have := HLN.out; have := HII.out; simp; omega
          have HTH : Hid ((A ++ Q.take s) ++ x :: (Q.drop s ++ C) = P ++ x :: q :: D) := hid (by rw [hdq, ← hP, ← hD]; simp)
          have HJ2 : Hid (Blk wr g 37 (avs (P ++ q :: x :: D) ++ z) ∧ Fr (fun k => k = g) w wr) := hid ⟨by have h := HJ.out.1; rw [htq, hD] at h; rw [← hP]; simpa using h, HJ.out.2⟩
          have hr2 : wr.rangeAt g (k1 * 2) [.string (sb q.1), .string (sb q.2)] := by have := avs_range HJ2.out.1; rwa [hPl] at this
          have hr1 : wr.rangeAt g (k * 2) [.string (sb x.1), .string (sb x.2)] := by
            have h : Blk wr g 37 (avs ((P ++ [q]) ++ x :: D) ++ z) := by have h := HJ2.out.1; simpa using h
            have := avs_range h
            rwa [show (P ++ [q]).length = k by simp; omega] at this
          have HP := hid (show P.length = k1 ∧ k1 + 1 = k ∧ i ≤ s ∧ s + 1 ≤ n ∧ a + s = k1 from ⟨hPl, by omega, by omega, htn, hk1⟩)
          have hk0 : (0 : Int) ≤ k := by omega
          have hkN : (k : Int) < N := by have := HLN.out; have := HM.out; omega
          have hk10 : (0 : Int) ≤ k1 := by omega
          have hk1N : (k1 : Int) < N := by omega
          have hk1e : (k : Int) - 1 = (k1 : Int) := by omega
          have hkb : (k : Int) ≤ 1048576 := by have := HLN.out; omega
          clear hq hdq htq hP hD hPl hlt hit htn hk hk1 HJ
          go_wp2_with fail
          have hold : Facts.hold [(9, fun w' => w'.rangeAt g (k1 * 2) [.string (sb q.1), .string (sb q.2)]), (13, fun w' => w'.rangeAt g (k * 2) [.string (sb x.1), .string (sb x.2)])] wr.drew := Facts.cons_hold hr2 (Facts.cons_hold hr1 (Facts.nil_hold _))
          refine wpD_region hold (by kernel_rfl) 18 rfl ?_
          (refine K.pl 0 (v := ?_) rfl ?_ ?_; rotate_left; (intro _w; go_simp; try with_reducible rfl); simp only [Act.put, K.put3])
          (refine K.pl 1 (v := ?_) rfl ?_ ?_; rotate_left; (intro _w; go_simp; try with_reducible rfl); simp only [Act.put, K.put3])
          (refine K.pl 2 (v := ?_) rfl ?_ ?_; rotate_left; (intro _w; go_simp; try with_reducible rfl); simp only [Act.put, K.put3])
          (refine K.pl 3 (v := ?_) rfl ?_ ?_; rotate_left; (intro _w; go_simp; try with_reducible rfl); simp only [Act.put, K.put3])
          (refine K.pl 4 (v := (.int .i64 (k1 : Int))) rfl ?_ ?_; (intro _w; exact exec_subI _ _ _ _ rfl (k : Int) 1 rfl rfl _ (by rw [IntKind.wrap_i64] <;> omega) _w); simp only [Act.put, K.put3])
          (refine K.pl 5 (v := ?_) rfl ?_ ?_; rotate_left; (intro _w; go_simp; try with_reducible rfl); simp only [Act.put, K.put3])
          (refine K.pl 6 (v := ?_) rfl ?_ ?_; rotate_left; (intro _w; go_simp; try with_reducible rfl); simp only [Act.put, K.put3])
          (refine K.pl 7 (v := (.int .i64 (k1 : Int))) rfl ?_ ?_; (intro _w; exact exec_subI _ _ _ _ rfl (k : Int) 1 rfl rfl _ (by rw [IntKind.wrap_i64] <;> omega) _w); simp only [Act.put, K.put3])
          (refine K.pl 8 (v := (.pointer (some ⟨g, k1 * 2, none⟩))) rfl ?_ ?_; (intro _w; go_simp; skip); simp only [Act.put, K.put3])
          (refine K.tk 9 _ rfl K.m0 (exec_load _ _ rfl g (k1 * 2) rfl _ _ rfl rfl infoAv) ?_; simp only [Act.put, K.put3])
          (refine K.pl 10 (v := ?_) rfl ?_ ?_; rotate_left; (intro _w; go_simp; try with_reducible rfl); simp only [Act.put, K.put3])
          (refine K.pl 11 (v := ?_) rfl ?_ ?_; rotate_left; (intro _w; go_simp; try with_reducible rfl); simp only [Act.put, K.put3])
          (refine K.pl 12 (v := (.pointer (some ⟨g, k * 2, none⟩))) rfl ?_ ?_; (intro _w; go_simp; skip); simp only [Act.put, K.put3])
          (refine K.tk 13 _ rfl K.m1 (exec_load _ _ rfl g (k * 2) rfl _ _ rfl rfl infoAv) ?_; simp only [Act.put, K.put3])
          (refine K.pl 14 (v := (.pointer (some ⟨g, k * 2, none⟩))) rfl ?_ ?_; (intro _w; go_simp; skip); simp only [Act.put, K.put3])
          clear hold
          have HLB2 := hid (show (avs (P ++ q :: (x :: D)) ++ z).length = (P.length + 2 + D.length) * 2 + z.length by rw [List.length_append, avs_len]; simp; omega)
          refine K.on 15 [] rfl (fun K15 hK15 => ?_)
          refine wp_storeV _ _ _ rfl g (k * 2) (.agg #[.string (sb q.1), .string (sb q.2)]) [.string (sb q.1), .string (sb q.2)] rfl rfl rfl 37 _ (show Blk wr.drew g _ _ from HJ2.out.1) (by rw [HLB2.out]; have := HP.out; simp; omega) infoAv (by simp [Value.oneCell']) ?_
          intro w5 HB5 HF5 HS5
          refine hK15 _ _ (Facts.nil_hold _) ?_
          clear hK15 K15
          simp only [Act.put, K.put3]
          have hold : Facts.hold [] w5 := Facts.nil_hold _
          (refine K.pl 16 (v := (.pointer (some ⟨g, k1 * 2, none⟩))) rfl ?_ ?_; (intro _w; go_simp; skip); simp only [Act.put, K.put3])
          clear hold
          refine K.on 17 [] rfl (fun K17 hK17 => ?_)
          refine wp_storeV _ _ _ rfl g (k1 * 2) (.agg #[.string (sb x.1), .string (sb x.2)]) [.string (sb x.1), .string (sb x.2)] rfl rfl rfl 37 _ HB5.out (by rw [spl_length _ _ _ (by rw [HLB2.out]; have := HP.out; simp; omega), HLB2.out]; have := HP.out; simp; omega) infoAv (by simp [Value.oneCell']) ?_
          intro w6 HB6 HF6 HS6
          refine hK17 _ _ (Facts.nil_hold _) ?_
          clear hK17 K17
          simp only [Act.put, K.put3]
          refine wpD_done (by kernel_rfl) ?_ _
          go_wp2_with fail
          refine ⟨⟨s, by rw [HP.out.2.2.2.2], HP.out.2.2.1, by have := HP.out; omega, hid ⟨?_, HJ2.out.2.trans' ((Fr.refl (fun k => k = g) wr).drew.trans' (HF5.out.trans' HF6.out))⟩⟩, ?_⟩
          · have h := HB6.out
            rw [← HP.out.2.1, ← HP.out.1, swap_cells] at h
            rw [HTH.out]
            exact h
          · have := HP.out
            simp [intOf]; omega
        · obtain rfl : t = i := by omega
          have hge : ¬ (I : Int) < k := by have := HII.out; omega
          clear hlt hit htn hk
          go_wp2_with fail
          refine bodyPost_ret (results_none rfl _ _ _) rfl ?_
          refine ⟨⟨_, rfl⟩, ?_, HJ.out.2⟩
          rw [HSR.out]
          have h := HJ.out.1
          simpa using h
theorem sd_le {P : Rd} (h : Sd P) {i j : Nat} {p q : Av} (hij : i ≤ j) (hp : P[i]? = some p) (hq : P[j]? = some q) : ltB q.1 p.1 = false := by
  rcases Nat.lt_or_ge i j with hl | hg
  · exact sd_get h hl hp hq
  · obtain rfl : i = j := by omega
    rw [hp] at hq
    cases hq
    exact ltB_irr _
theorem mem_take_at {P : Rd} {u : Nat} {p : Av} (h : p ∈ P.take u) : ∃ i, i < u ∧ P[i]? = some p := by
  obtain ⟨i, hi⟩ := List.getElem?_of_mem h
  rw [List.getElem?_take] at hi
  split at hi
  · exact ⟨i, by assumption, hi⟩
  · cases hi
theorem mem_drop_at {P : Rd} {u : Nat} {p : Av} (h : p ∈ P.drop u) : ∃ i, u ≤ i ∧ P[i]? = some p := by
  obtain ⟨i, hi⟩ := List.getElem?_of_mem h
  rw [List.getElem?_drop] at hi
  exact ⟨u + i, by omega, hi⟩
theorem sd_take {P : Rd} (h : Sd P) (u : Nat) : Sd (P.take u) := List.Pairwise.sublist (List.take_sublist _ _) h
theorem sd_drop {P : Rd} (h : Sd P) (u : Nat) : Sd (P.drop u) := List.Pairwise.sublist (List.drop_sublist _ _) h
/-- A cut of both parts, found by halving. -/
theorem mg_cut {P Q : Rd} (hP : Sd P) (hQ : Sd Q) (u v : Nat)
    (hA : u = 0 ∨ Q.length ≤ v ∨ ∃ p q, P[u - 1]? = some p ∧ Q[v]? = some q ∧ ltB q.1 p.1 = false)
    (hB : v = 0 ∨ P.length ≤ u ∨ ∃ p q, P[u]? = some p ∧ Q[v - 1]? = some q ∧ ltB q.1 p.1 = true) :
    srt (P.take u ++ Q.take v) ++ srt (P.drop u ++ Q.drop v) = srt (P ++ Q) := by
  have h := srt_parts (P1 := P.take u) (P2 := P.drop u) (Q1 := Q.take v) (Q2 := Q.drop v) ?_ ?_ ?_ ?_
  · rw [List.take_append_drop, List.take_append_drop] at h
    exact h
  · intro p hp q hq
    obtain ⟨i, hi, hpi⟩ := mem_take_at hp
    obtain ⟨j, hj, hqj⟩ := mem_drop_at hq
    exact sd_le hP (by omega) hpi hqj
  · intro p hp q hq
    obtain ⟨i, hi, hpi⟩ := mem_take_at hp
    obtain ⟨j, hj, hqj⟩ := mem_drop_at hq
    rcases hA with h | h | ⟨x, y, hx, hy, hxy⟩
    · omega
    · have := (List.getElem?_eq_some_iff.1 hqj).1; omega
    · exact le_trans (le_trans (sd_le hP (by omega) hpi hx) hxy) (sd_le hQ hj hy hqj)
  · intro p hp q hq
    obtain ⟨i, hi, hpi⟩ := mem_take_at hp
    obtain ⟨j, hj, hqj⟩ := mem_drop_at hq
    rcases hB with h | h | ⟨x, y, hx, hy, hxy⟩
    · omega
    · have := (List.getElem?_eq_some_iff.1 hqj).1; omega
    · cases hpq : ltB p.1 q.1 with
      | true => rfl
      | false =>
        have h1 : ltB y.1 x.1 = false := le_trans (le_trans (sd_le hP hj hx hqj) hpq) (sd_le hQ (by omega) hpi hy)
        rw [hxy] at h1
        cases h1
  · intro p hp q hq
    obtain ⟨i, hi, hpi⟩ := mem_take_at hp
    obtain ⟨j, hj, hqj⟩ := mem_drop_at hq
    exact sd_le hQ (by omega) hpi hqj
theorem srt_nil_left {P : Rd} (h : Sd P) : srt ([] ++ P) = P := by rw [List.nil_append, srt_of_sorted h]
theorem srt_nil_right {P : Rd} (h : Sd P) : srt (P ++ []) = P := by rw [List.append_nil, srt_of_sorted h]
/-- What a place of a part reads. -/
theorem part_at {w : World} {g : Nat} {A P C : Rd} {x : Av} {z : List Value} {i : Nat} (hB : Blk w g 37 (avs (A ++ P ++ C) ++ z)) (hx : P[i]? = some x) (h : Nat) (hh : A.length + i = h) : w.rangeAt g (h * 2) [.string (sb x.1), .string (sb x.2)] := by
  have hqs : P.take i ++ x :: P.drop (i + 1) = P := by
    obtain ⟨h1, rfl⟩ := List.getElem?_eq_some_iff.1 hx
    rw [← List.drop_eq_getElem_cons h1, List.take_append_drop]
  have hl : (P.take i).length = i := by
    have := (List.getElem?_eq_some_iff.1 hx).1
    rw [List.length_take]; omega
  have h2 : Blk w g 37 (avs ((A ++ P.take i) ++ x :: (P.drop (i + 1) ++ C)) ++ z) := by
    rw [← hqs] at hB
    simpa using hB
  have := avs_range h2
  rwa [show (A ++ P.take i).length = h by rw [List.length_append, hl]; exact hh] at this
def MgC (D : Nat) : Prop := ∀ (g N cap : Nat) (A P Q C : Rd) (z : List Value) (w : World), P.length + Q.length ≤ D → (A ++ P ++ Q ++ C).length = N → N ≤ cap → Blk w g 37 (avs (A ++ P ++ Q ++ C) ++ z) → N ≤ 1048576 → Sd P → Sd Q → 1 ≤ P.length → 1 ≤ Q.length → ∀ (a m b : Nat), A.length = a → a + P.length = m → m + Q.length = b →
    Calls Tryd.prog 53 #[.slice (some ⟨g, 0, none⟩) N cap, .int .i64 (a : Int), .int .i64 (m : Int), .int .i64 (b : Int), .func (.func 31) #[] #[]] w fun e w' => (∃ v, e = .returned v) ∧ Blk w' g 37 (avs (A ++ srt (P ++ Q) ++ C) ++ z) ∧ Fr (fun k => k = g) w w'
set_option maxHeartbeats 64000000 in
theorem mg_step (D : Nat) (ih : MgC D) (g N cap : Nat) (A P Q C : Rd) (z : List Value) (w : World) (hD : P.length + Q.length ≤ D + 1) (hN : (A ++ P ++ Q ++ C).length = N) (hc : N ≤ cap) (hB : Blk w g 37 (avs (A ++ P ++ Q ++ C) ++ z)) (hl : N ≤ 1048576) (hP : Sd P) (hQ : Sd Q) (hp2 : 2 ≤ P.length) (hq2 : 2 ≤ Q.length) (a m b : Nat) (ha : A.length = a) (hm : a + P.length = m) (hb : m + Q.length = b) :
    Calls Tryd.prog 53 #[.slice (some ⟨g, 0, none⟩) N cap, .int .i64 (a : Int), .int .i64 (m : Int), .int .i64 (b : Int), .func (.func 31) #[] #[]] w fun e w' => (∃ v, e = .returned v) ∧ Blk w' g 37 (avs (A ++ srt (P ++ Q) ++ C) ++ z) ∧ Fr (fun k => k = g) w w' := by
  have HIH := hid ih
  have HB0 := hid hB
  have HSD := hid (And.intro hP hQ)
  have HLN := hid (show A.length = a ∧ a + P.length = m ∧ m + Q.length = b ∧ b + C.length = N ∧ N ≤ cap ∧ N ≤ 1048576 ∧ 2 ≤ P.length ∧ 2 ≤ Q.length ∧ P.length + Q.length ≤ D + 1 from ⟨ha, hm, hb, by simp at hN; omega, hc, hl, hp2, hq2, hD⟩)
  have hbi : (b : Int) ≤ 1048576 := by have := HLN.out; omega
  have hma : ((m : Int) - a == 1) = false := by rw [beq_eq_false_iff_ne]; have := HLN.out; omega
  have hbm : ((b : Int) - m == 1) = false := by rw [beq_eq_false_iff_ne]; have := HLN.out; omega
  have ham : (a : Int) + 2 ≤ m := by have := HLN.out; omega
  have hmb : (m : Int) + 2 ≤ b := by have := HLN.out; omega
  have ha0 : (0 : Int) ≤ a := by omega
  obtain ⟨mid, hmid⟩ : ∃ mid, (a + b) / 2 = mid := ⟨_, rfl⟩
  have hmidI : ((a : Int) + b) / 2 = (mid : Int) := by omega
  obtain ⟨n, hn⟩ : ∃ n, mid + m = n := ⟨_, rfl⟩
  have HMN := hid (And.intro hmid hn)
  clear ih hB hN hc hl hP hQ hp2 hq2 ha hm hb hD hmid hn
  go_enter Tryd.func53, Tryd.ntmps53
  go_upto_if 140 with fail
  try rw [hmidI]
  go_cut [20, 21] (fun s20 s21 wx => ∃ s0 r0 : Nat, s20 = .int .i64 s0 ∧ s21 = .int .i64 r0 ∧ Hid (a ≤ s0 ∧ s0 ≤ r0 ∧ r0 ≤ m ∧ n ≤ b + s0 ∧ m + r0 ≤ n ∧ (s0 = a ∨ n = b + s0) ∧ (r0 = m ∨ n = m + r0)) ∧ wx = w)
  case first =>
    have h := HMN.out
    by_cases hg : mid < m
    · have hgi : (mid : Int) < m := by omega
      have hnb : (n : Int) - b = ((n - b : Nat) : Int) := by have := HLN.out; omega
      have HNB := hid hnb
      have hnI : (mid : Int) + m = (n : Int) := by omega
      clear h hg hnb
      go_wp2_with fail
      go_meet
      refine ⟨n - b, mid, ?_, by first | rfl | simp, hid (by have := HLN.out; have := HMN.out; omega), rfl⟩
      first
        | rw [hnI, HNB.out]
        | rw [HNB.out]
    · have hgi : ¬ (mid : Int) < m := by omega
      clear h hg
      go_wp2_with fail
      go_meet
      exact ⟨a, m, rfl, rfl, hid (by have := HLN.out; have := HMN.out; omega), rfl⟩
  case rest =>
    obtain ⟨s0, r0, rfl, rfl, HBD, hwc⟩ := hcut
    have hwc := hwc.symm
    subst hwc
    have hnI : (mid : Int) + m = (n : Int) := by have := HMN.out; omega
    rw [hnI]
    have hn0 : (1 : Int) ≤ n := by have := HMN.out; have := HLN.out; omega
    have hnb : (n : Int) ≤ 2097152 := by have := HMN.out; have := HLN.out; omega
    obtain ⟨pp, hpp⟩ : ∃ pp, n - 1 = pp := ⟨_, rfl⟩
    have hppI : (n : Int) - 1 = (pp : Int) := by omega
    have HPP := hid (show pp + 1 = n by omega)
    clear hnI hpp
    go_wp2_with fail
    try rw [hppI]
    clear hppI
    go_loopw [20, 21] (fun sv rv wr => ∃ (S R : Nat), sv = .int .i64 S ∧ rv = .int .i64 R ∧ S ≤ R ∧ Hid (s0 ≤ S ∧ R ≤ r0 ∧ (S = s0 ∨ ∃ x y, P[S - 1 - a]? = some x ∧ Q[n - S - m]? = some y ∧ ltB y.1 x.1 = false) ∧ (R = r0 ∨ ∃ x y, P[R - a]? = some x ∧ Q[n - 1 - R - m]? = some y ∧ ltB y.1 x.1 = true)) ∧ Hid (Fr No w wr)) (fun sv rv _ => (intOf rv).toNat - (intOf sv).toNat)
    case atStart => exact ⟨s0, r0, rfl, rfl, HBD.out.2.1, hid ⟨Nat.le_refl _, Nat.le_refl _, .inl rfl, .inl rfl⟩, hid (Fr.refl _ _)⟩
    case round =>
      obtain ⟨S, R, rfl, rfl, hSR, HS, HF⟩ := hrel
      by_cases hlt : S < R
      · as_aux_lemma =>
          have hlti : (S : Int) < R := by omega
          have hS0 : (0 : Int) ≤ S := by omega
          have hRb : (R : Int) ≤ 1048576 := by have := HS.out; have := HBD.out; have := HLN.out; omega
          obtain ⟨H, hH⟩ : ∃ H, (S + R) / 2 = H := ⟨_, rfl⟩
          have hIH : ((S : Int) + R) / 2 = (H : Int) := by omega
          have HH := hid (show S ≤ H ∧ H < R by omega)
          obtain ⟨G, hG⟩ : ∃ G, n - 1 - H = G := ⟨_, rfl⟩
          have HG := hid (show a ≤ H ∧ H < m ∧ m ≤ G ∧ G < b ∧ G + H + 1 = n by have := HS.out; have := HBD.out; have := HLN.out; have := HMN.out; omega)
          have HGI : Hid ((pp : Int) - H = (G : Int)) := hid (by have := HG.out; have := HPP.out; omega)
          obtain ⟨x, hx⟩ : ∃ x, P[H - a]? = some x := ⟨_, List.getElem?_eq_getElem (by have := HLN.out; have := HG.out; omega)⟩
          obtain ⟨y, hy⟩ : ∃ y, Q[G - m]? = some y := ⟨_, List.getElem?_eq_getElem (by have := HLN.out; have := HG.out; omega)⟩
          have hBw := HB0.out.fr HF.out id
          have hr1 : wr.rangeAt g (H * 2) [.string (sb x.1), .string (sb x.2)] := part_at (A := A) (P := P) (C := Q ++ C) (by simpa using hBw) hx H (by have := HLN.out; have := HG.out; omega)
          have hr2 : wr.rangeAt g (G * 2) [.string (sb y.1), .string (sb y.2)] := part_at (A := A ++ P) (P := Q) (C := C) hBw hy G (by have := HLN.out; have := HG.out; rw [List.length_append]; omega)
          have HCMP := hid (fun w => cmp_any y x w)
          have hcl := cmp_lt y.1 x.1
          obtain ⟨cv, hcv⟩ : ∃ cv : Int, Lib.compareBytes y.1 x.1 = cv := ⟨_, rfl⟩
          rw [hcv] at hcl HCMP
          have HX := hid hx; have HY := hid hy
          have hH0 : (0 : Int) ≤ H := by omega
          have hHN : (H : Int) < N := by have := HLN.out; have := HG.out; omega
          have hG0 : (0 : Int) ≤ G := by omega
          have hGN : (G : Int) < N := by have := HLN.out; have := HG.out; omega
          have hppb : (pp : Int) ≤ 2097152 := by have := HPP.out; omega
          have hHp : (H : Int) ≤ pp := by have := HG.out; have := HPP.out; omega
          clear hH hG hx hy hBw hcv hSR hlt
          go_wp2_with fail
          try rw [hIH]
          cases hlb : ltB y.1 x.1 with
          | false =>
            have HCL : Hid (decide (cv < 0) = false) := hid (by rw [hcl, hlb])
            have HLB := hid hlb
            clear hcl hlb
            have hold : Facts.hold [(6, fun w' => w'.rangeAt g (G * 2) [.string (sb y.1), .string (sb y.2)]), (10, fun w' => w'.rangeAt g (H * 2) [.string (sb x.1), .string (sb x.2)])] wr.drew := Facts.cons_hold hr2 (Facts.cons_hold hr1 (Facts.nil_hold _))
            refine wpD_region hold (by kernel_rfl) 14 rfl ?_
            (refine K.pl 0 (v := ?_) rfl ?_ ?_; rotate_left; (intro _w; go_simp; try with_reducible rfl); simp only [Act.put, K.put3])
            (refine K.pl 1 (v := ?_) rfl ?_ ?_; rotate_left; (intro _w; go_simp; try with_reducible rfl); simp only [Act.put, K.put3])
            (refine K.pl 2 (v := ?_) rfl ?_ ?_; rotate_left; (intro _w; go_simp; try with_reducible rfl); simp only [Act.put, K.put3])
            (refine K.pl 3 (v := ?_) rfl ?_ ?_; rotate_left; (intro _w; go_simp; try with_reducible rfl); simp only [Act.put, K.put3])
            (refine K.pl 4 (v := (.int .i64 (G : Int))) rfl ?_ ?_; (intro _w; go_simp; (first | (rw [HGI.out]; done) | (have := HGI.out; rw [IntKind.wrap_i64]; omega))); simp only [Act.put, K.put3])
            (refine K.pl 5 (v := (.pointer (some ⟨g, G * 2, none⟩))) rfl ?_ ?_; (intro _w; go_simp; skip); simp only [Act.put, K.put3])
            (refine K.tk 6 _ rfl K.m0 (exec_load _ _ rfl g (G * 2) rfl _ _ rfl rfl infoAv) ?_; simp only [Act.put, K.put3])
            (refine K.pl 7 (v := ?_) rfl ?_ ?_; rotate_left; (intro _w; go_simp; try with_reducible rfl); simp only [Act.put, K.put3])
            (refine K.pl 8 (v := ?_) rfl ?_ ?_; rotate_left; (intro _w; go_simp; try with_reducible rfl); simp only [Act.put, K.put3])
            (refine K.pl 9 (v := (.pointer (some ⟨g, H * 2, none⟩))) rfl ?_ ?_; (intro _w; go_simp; skip); simp only [Act.put, K.put3])
            (refine K.tk 10 _ rfl K.m1 (exec_load _ _ rfl g (H * 2) rfl _ _ rfl rfl infoAv) ?_; simp only [Act.put, K.put3])
            clear hold
            refine K.on 11 [] rfl (fun K11 hK11 => ?_)
            refine wp_call _ _ _ rfl 31 [] rfl (fun vs w => by kernel_rfl) [.agg #[.string (sb y.1), .string (sb y.2)], .agg #[.string (sb x.1), .string (sb x.2)]] (by rfl) ?_
            refine (HCMP.out wr.drew).mono ?_
            rintro e w3 ⟨rfl, f3⟩
            have HF3 : Hid (Fr No w w3) := hid (HF.out.drew.trans' f3)
            refine ⟨_, rfl, hK11 _ _ (Facts.nil_hold _) ?_⟩
            clear hK11 K11 f3
            simp only [Act.put, K.put3]
            have hold : Facts.hold [] w3 := Facts.nil_hold _
            (refine K.pl 12 (v := (.bool false)) rfl ?_ ?_; (intro _w; exact exec_lssI _ _ _ _ rfl .i64 cv 0 rfl rfl _ HCL.out _w); simp only [Act.put, K.put3])
            (refine K.pl 13 (v := ?_) rfl ?_ ?_; rotate_left; (intro _w; go_simp; try with_reducible rfl); simp only [Act.put, K.put3])
            clear hold
            refine wpD_done (by kernel_rfl) ?_ _
            go_wp2_with fail
            refine ⟨⟨H + 1, R, by push_cast; rfl, rfl, by have := HH.out; omega, hid ⟨by have := HH.out; have := HS.out; omega, HS.out.2.1, .inr ⟨x, y, by rw [Nat.add_sub_cancel]; exact HX.out, by rw [show n - (H + 1) - m = G - m by have := HG.out; omega]; exact HY.out, HLB.out⟩, HS.out.2.2.2⟩, HF3⟩, ?_⟩
            have := HH.out
            simp [intOf]; omega
          | true =>
            have HCL : Hid (decide (cv < 0) = true) := hid (by rw [hcl, hlb])
            have HLB := hid hlb
            clear hcl hlb
            have hold : Facts.hold [(6, fun w' => w'.rangeAt g (G * 2) [.string (sb y.1), .string (sb y.2)]), (10, fun w' => w'.rangeAt g (H * 2) [.string (sb x.1), .string (sb x.2)])] wr.drew := Facts.cons_hold hr2 (Facts.cons_hold hr1 (Facts.nil_hold _))
            refine wpD_region hold (by kernel_rfl) 14 rfl ?_
            (refine K.pl 0 (v := ?_) rfl ?_ ?_; rotate_left; (intro _w; go_simp; try with_reducible rfl); simp only [Act.put, K.put3])
            (refine K.pl 1 (v := ?_) rfl ?_ ?_; rotate_left; (intro _w; go_simp; try with_reducible rfl); simp only [Act.put, K.put3])
            (refine K.pl 2 (v := ?_) rfl ?_ ?_; rotate_left; (intro _w; go_simp; try with_reducible rfl); simp only [Act.put, K.put3])
            (refine K.pl 3 (v := ?_) rfl ?_ ?_; rotate_left; (intro _w; go_simp; try with_reducible rfl); simp only [Act.put, K.put3])
            (refine K.pl 4 (v := (.int .i64 (G : Int))) rfl ?_ ?_; (intro _w; go_simp; (first | (rw [HGI.out]; done) | (have := HGI.out; rw [IntKind.wrap_i64]; omega))); simp only [Act.put, K.put3])
            (refine K.pl 5 (v := (.pointer (some ⟨g, G * 2, none⟩))) rfl ?_ ?_; (intro _w; go_simp; skip); simp only [Act.put, K.put3])
            (refine K.tk 6 _ rfl K.m0 (exec_load _ _ rfl g (G * 2) rfl _ _ rfl rfl infoAv) ?_; simp only [Act.put, K.put3])
            (refine K.pl 7 (v := ?_) rfl ?_ ?_; rotate_left; (intro _w; go_simp; try with_reducible rfl); simp only [Act.put, K.put3])
            (refine K.pl 8 (v := ?_) rfl ?_ ?_; rotate_left; (intro _w; go_simp; try with_reducible rfl); simp only [Act.put, K.put3])
            (refine K.pl 9 (v := (.pointer (some ⟨g, H * 2, none⟩))) rfl ?_ ?_; (intro _w; go_simp; skip); simp only [Act.put, K.put3])
            (refine K.tk 10 _ rfl K.m1 (exec_load _ _ rfl g (H * 2) rfl _ _ rfl rfl infoAv) ?_; simp only [Act.put, K.put3])
            clear hold
            refine K.on 11 [] rfl (fun K11 hK11 => ?_)
            refine wp_call _ _ _ rfl 31 [] rfl (fun vs w => by kernel_rfl) [.agg #[.string (sb y.1), .string (sb y.2)], .agg #[.string (sb x.1), .string (sb x.2)]] (by rfl) ?_
            refine (HCMP.out wr.drew).mono ?_
            rintro e w3 ⟨rfl, f3⟩
            have HF3 : Hid (Fr No w w3) := hid (HF.out.drew.trans' f3)
            refine ⟨_, rfl, hK11 _ _ (Facts.nil_hold _) ?_⟩
            clear hK11 K11 f3
            simp only [Act.put, K.put3]
            have hold : Facts.hold [] w3 := Facts.nil_hold _
            (refine K.pl 12 (v := (.bool true)) rfl ?_ ?_; (intro _w; exact exec_lssI _ _ _ _ rfl .i64 cv 0 rfl rfl _ HCL.out _w); simp only [Act.put, K.put3])
            (refine K.pl 13 (v := ?_) rfl ?_ ?_; rotate_left; (intro _w; go_simp; try with_reducible rfl); simp only [Act.put, K.put3])
            clear hold
            refine wpD_done (by kernel_rfl) ?_ _
            go_wp2_with fail
            refine ⟨⟨S, H, rfl, rfl, by have := HH.out; omega, hid ⟨HS.out.1, by have := HH.out; have := HS.out; omega, HS.out.2.2.1, .inr ⟨x, y, HX.out, by rw [show n - 1 - H - m = G - m by have := HG.out; omega]; exact HY.out, HLB.out⟩⟩, HF3⟩, ?_⟩
            have := HH.out
            simp [intOf]; omega
      · obtain rfl : S = R := by omega
        clear hSR hlt
        obtain ⟨E, hE⟩ : ∃ E, n - S = E := ⟨_, rfl⟩
        have HE := hid (show a ≤ S ∧ S ≤ m ∧ m ≤ E ∧ E ≤ b ∧ E + S = n by have := HS.out; have := HBD.out; have := HLN.out; have := HMN.out; omega)
        have hEI : (n : Int) - S = (E : Int) := by have := HE.out; omega
        have HCUT : Hid (srt (P.take (S - a) ++ Q.take (E - m)) ++ srt (P.drop (S - a) ++ Q.drop (E - m)) = srt (P ++ Q)) := hid (by
          refine mg_cut HSD.out.1 HSD.out.2 _ _ ?_ ?_
          · rcases HS.out.2.2.1 with h | ⟨x, y, hx, hy, hxy⟩
            · rcases HBD.out.2.2.2.2.2.1 with h2 | h2
              · exact .inl (by omega)
              · exact .inr (.inl (by have := HE.out; have := HLN.out; omega))
            · exact .inr (.inr ⟨x, y, by rw [show S - a - 1 = S - 1 - a by omega]; exact hx, by rw [← hE]; exact hy, hxy⟩)
          · rcases HS.out.2.2.2 with h | ⟨x, y, hx, hy, hxy⟩
            · rcases HBD.out.2.2.2.2.2.2 with h2 | h2
              · exact .inr (.inl (by have := HE.out; have := HLN.out; omega))
              · exact .inl (by have := HE.out; omega)
            · exact .inr (.inr ⟨x, y, hx, by rw [show E - m - 1 = n - 1 - S - m by have := HE.out; omega]; exact hy, hxy⟩))
        obtain ⟨P1, hP1⟩ : ∃ P1, P.take (S - a) = P1 := ⟨_, rfl⟩
        obtain ⟨P2, hP2⟩ : ∃ P2, P.drop (S - a) = P2 := ⟨_, rfl⟩
        obtain ⟨Q1, hQ1⟩ : ∃ Q1, Q.take (E - m) = Q1 := ⟨_, rfl⟩
        obtain ⟨Q2, hQ2⟩ : ∃ Q2, Q.drop (E - m) = Q2 := ⟨_, rfl⟩
        have HPQ : Hid (P = P1 ++ P2 ∧ Q = Q1 ++ Q2) := hid ⟨by rw [← hP1, ← hP2, List.take_append_drop], by rw [← hQ1, ← hQ2, List.take_append_drop]⟩
        have HLEN : Hid (a + P1.length = S ∧ S + P2.length = m ∧ m + Q1.length = E ∧ E + Q2.length = b) := hid (by
          have := HE.out; have := HLN.out
          rw [← hP1, ← hP2, ← hQ1, ← hQ2, List.length_take, List.length_drop, List.length_take, List.length_drop]; omega)
        have HSDS : Hid (Sd P1 ∧ Sd P2 ∧ Sd Q1 ∧ Sd Q2) := hid (by rw [← hP1, ← hP2, ← hQ1, ← hQ2]; exact ⟨sd_take HSD.out.1 _, sd_drop HSD.out.1 _, sd_take HSD.out.2 _, sd_drop HSD.out.2 _⟩)
        rw [hP1, hP2, hQ1, hQ2] at HCUT
        have HBk : Hid (Blk wr g 37 (avs (A ++ P1 ++ P2 ++ Q1 ++ Q2 ++ C) ++ z)) := hid (by
          have h := HB0.out.fr HF.out id
          rw [HPQ.out.1, HPQ.out.2] at h
          simpa using h)
        have HAL := hid (show A.length = a ∧ b + C.length = N ∧ N ≤ cap ∧ N ≤ 1048576 ∧ mid + m = n ∧ a < mid ∧ mid < b ∧ a + 4 ≤ b by have := HLN.out; have := HMN.out; omega)
        have HDD := hid (show (m - a) + (b - m) ≤ D + 1 by have := HLN.out; omega)
        have HFg : Hid (Fr (fun k => k = g) w wr) := hid HF.out.no
        clear hE hP1 hP2 hQ1 hQ2
        have hSb : (S : Int) ≤ 1048576 := by have := HE.out; have := HLN.out; omega
        have hEb : (E : Int) ≤ 1048576 := by have := HE.out; have := HLN.out; omega
        have hSn : (S : Int) ≤ n := by have := HE.out; omega
        have HB1 : Hid (a < mid ∧ mid < b) := hid (by have := HAL.out; omega)
        have hmidb : (mid : Int) ≤ 1048576 := by have := HAL.out; have := HLN.out; omega
        go_upto_region 39 with fail
        try rw [hEI]
        go_cut [185] (fun s wx => s = .bool (decide (S < m ∧ m < E)) ∧ wx = wr)
        case first => as_aux_lemma =>
          by_cases h1 : S < m
          · have h1i : (S : Int) < m := by omega
            by_cases h2 : m < E
            · have h2i : (m : Int) < E := by omega
              have HQ := hid (decide_eq_true (And.intro h1 h2))
              clear h1 h2
              go_wp2_with fail
              go_meet
              exact ⟨by rw [HQ.out], rfl⟩
            · have h2i : ¬ (m : Int) < E := by omega
              have HQ : Hid (decide (S < m ∧ m < E) = false) := hid (decide_eq_false (fun h => h2 h.2))
              clear h1 h2
              go_wp2_with fail
              go_meet
              exact ⟨by rw [HQ.out], rfl⟩
          · have h1i : ¬ (S : Int) < m := by omega
            have HQ : Hid (decide (S < m ∧ m < E) = false) := hid (decide_eq_false (fun h => h1 h.1))
            clear h1
            go_wp2_with fail
            go_meet
            exact ⟨by rw [HQ.out], rfl⟩
        case rest =>
        obtain ⟨rfl, hwc⟩ := hcut
        rw [hwc]
        clear hwc
        go_upto_if 185 with fail
        go_cut [] (fun wx => Hid (Blk wx g 37 (avs (A ++ P1 ++ Q1 ++ P2 ++ Q2 ++ C) ++ z)) ∧ Hid (Fr (fun k => k = g) w wx))
        case first => as_aux_lemma =>
          by_cases hc : S < m ∧ m < E
          · rw [decide_eq_true hc]
            have HC := hid hc
            clear hc
            go_wp2_with fail
            refine (rotate_any g N cap (A ++ P1) P2 Q1 (Q2 ++ C) _ z wr (by have := HAL.out; have := HLEN.out; simp only [List.length_append]; omega) (by have := HLEN.out; have := HC.out; omega) (by have := HLEN.out; have := HC.out; omega) HAL.out.2.2.1 (by have h := HBk.out; simpa using h) HAL.out.2.2.2.1 S m E (by have := HAL.out; have := HLEN.out; simp only [List.length_append]; omega) HLEN.out.2.1 HLEN.out.2.2.1).mono ?_
            rintro e w2 ⟨⟨v, rfl⟩, hb2, f2⟩
            have HB2 := hid hb2; have HFF := hid (HFg.out.trans' f2)
            clear hb2 f2
            go_wp2_with fail
            go_meet
            exact ⟨hid (by have h := HB2.out; simpa using h), HFF⟩
          · rw [decide_eq_false hc]
            have HBE : Hid (Blk wr g 37 (avs (A ++ P1 ++ Q1 ++ P2 ++ Q2 ++ C) ++ z)) := hid (by
              have h := HBk.out
              have : P2 = [] ∨ Q1 = [] := by
                rcases Nat.lt_or_ge S m with h1 | h1
                · exact .inr (List.eq_nil_of_length_eq_zero (by have := HLEN.out; omega))
                · exact .inl (List.eq_nil_of_length_eq_zero (by have := HLEN.out; omega))
              rcases this with rfl | rfl <;> simpa using h)
            clear hc
            go_wp2_with fail
            go_meet
            exact ⟨HBE, HFg⟩
        case rest =>
        obtain ⟨HBk1, HFg1⟩ := hcut
        obtain ⟨x1, hwx⟩ : ∃ y, y = wc := ⟨_, rfl⟩
        rw [← hwx] at HBk1 HFg1 ⊢
        clear hwx
        have HMD := hid (show S + Q1.length = mid ∧ mid + P2.length = E from by have := HLEN.out; have := HE.out; have := HAL.out; omega)
        go_upto_region 41 with fail
        try rw [hEI]
        go_cut [199] (fun s wx => s = .bool (decide (a < S ∧ S < mid)) ∧ wx = x1)
        case first => as_aux_lemma =>
          by_cases h1 : a < S
          · have h1i : (a : Int) < S := by omega
            by_cases h2 : S < mid
            · have h2i : (S : Int) < mid := by omega
              have HQ := hid (decide_eq_true (And.intro h1 h2))
              clear h1 h2
              go_wp2_with fail
              go_meet
              exact ⟨by rw [HQ.out], rfl⟩
            · have h2i : ¬ (S : Int) < mid := by omega
              have HQ : Hid (decide (a < S ∧ S < mid) = false) := hid (decide_eq_false (fun h => h2 h.2))
              clear h1 h2
              go_wp2_with fail
              go_meet
              exact ⟨by rw [HQ.out], rfl⟩
          · have h1i : ¬ (a : Int) < S := by omega
            have HQ : Hid (decide (a < S ∧ S < mid) = false) := hid (decide_eq_false (fun h => h1 h.1))
            clear h1
            go_wp2_with fail
            go_meet
            exact ⟨by rw [HQ.out], rfl⟩
        case rest =>
        obtain ⟨rfl, hwc⟩ := hcut
        rw [hwc]
        clear hwc
        go_upto_if 199 with fail
        go_cut [] (fun wx => Hid (Blk wx g 37 (avs (A ++ srt (P1 ++ Q1) ++ (P2 ++ Q2) ++ C) ++ z)) ∧ Hid (Fr (fun k => k = g) w wx))
        case first => as_aux_lemma =>
          by_cases hc : a < S ∧ S < mid
          · rw [decide_eq_true hc]
            have HC := hid hc
            clear hc
            go_wp2_with fail
            refine (HIH.out g N cap A P1 Q1 (P2 ++ Q2 ++ C) z x1 (by have := HDD.out; have := HLEN.out; have := HMD.out; have := HAL.out; have := HE.out; omega) (by have := HAL.out; have := HLEN.out; have := HMD.out; simp only [List.length_append]; omega) HAL.out.2.2.1 (by have h := HBk1.out; simpa using h) HAL.out.2.2.2.1 HSDS.out.1 HSDS.out.2.2.1 (by have := HLEN.out; have := HC.out; omega) (by have := HMD.out; have := HC.out; omega) a S mid HAL.out.1 HLEN.out.1 HMD.out.1).mono ?_
            rintro e w2 ⟨⟨v, rfl⟩, hb2, f2⟩
            have HB2 := hid hb2; have HFF := hid (HFg1.out.trans' f2)
            clear hb2 f2
            go_wp2_with fail
            go_meet
            exact ⟨hid (by have h := HB2.out; simpa using h), HFF⟩
          · rw [decide_eq_false hc]
            have HBE : Hid (Blk x1 g 37 (avs (A ++ srt (P1 ++ Q1) ++ (P2 ++ Q2) ++ C) ++ z)) := hid (by
              have h := HBk1.out
              have : P1 = [] ∨ Q1 = [] := by
                rcases Nat.lt_or_ge a S with h1 | h1
                · exact .inr (List.eq_nil_of_length_eq_zero (by have := HMD.out; omega))
                · exact .inl (List.eq_nil_of_length_eq_zero (by have := HLEN.out; omega))
              rcases this with rfl | rfl
              · rw [srt_nil_left HSDS.out.2.2.1]; simpa using h
              · rw [srt_nil_right HSDS.out.1]; simpa using h)
            clear hc
            go_wp2_with fail
            go_meet
            exact ⟨HBE, HFg1⟩
        case rest =>
        obtain ⟨HBk2, HFg2⟩ := hcut
        obtain ⟨x2, hwx⟩ : ∃ y, y = wc := ⟨_, rfl⟩
        rw [← hwx] at HBk2 HFg2 ⊢
        clear hwx
        have HL2 := hid (show (srt (P1 ++ Q1)).length = P1.length + Q1.length by rw [srt_len, List.length_append])
        go_upto_region 43 with fail
        try rw [hEI]
        go_cut [213] (fun s wx => s = .bool (decide (mid < E ∧ E < b)) ∧ wx = x2)
        case first => as_aux_lemma =>
          by_cases h1 : mid < E
          · have h1i : (mid : Int) < E := by omega
            by_cases h2 : E < b
            · have h2i : (E : Int) < b := by omega
              have HQ := hid (decide_eq_true (And.intro h1 h2))
              clear h1 h2
              go_wp2_with fail
              go_meet
              exact ⟨by rw [HQ.out], rfl⟩
            · have h2i : ¬ (E : Int) < b := by omega
              have HQ : Hid (decide (mid < E ∧ E < b) = false) := hid (decide_eq_false (fun h => h2 h.2))
              clear h1 h2
              go_wp2_with fail
              go_meet
              exact ⟨by rw [HQ.out], rfl⟩
          · have h1i : ¬ (mid : Int) < E := by omega
            have HQ : Hid (decide (mid < E ∧ E < b) = false) := hid (decide_eq_false (fun h => h1 h.1))
            clear h1
            go_wp2_with fail
            go_meet
            exact ⟨by rw [HQ.out], rfl⟩
        case rest =>
        obtain ⟨rfl, hwc⟩ := hcut
        rw [hwc]
        clear hwc
        go_upto_if 213 with fail
        by_cases hc : mid < E ∧ E < b
        · rw [decide_eq_true hc]
          have HC := hid hc
          clear hc
          go_wp2_with fail
          refine (HIH.out g N cap (A ++ srt (P1 ++ Q1)) P2 Q2 C z x2 (by have := HDD.out; have := HLEN.out; have := HMD.out; have := HAL.out; have := HE.out; omega) (by have := HAL.out; have := HLEN.out; have := HMD.out; have := HL2.out; simp only [List.length_append]; omega) HAL.out.2.2.1 (by have h := HBk2.out; simpa using h) HAL.out.2.2.2.1 HSDS.out.2.1 HSDS.out.2.2.2 (by have := HMD.out; have := HC.out; omega) (by have := HLEN.out; have := HC.out; omega) mid E b (by have := HAL.out; have := HLEN.out; have := HMD.out; have := HL2.out; simp only [List.length_append]; omega) HMD.out.2 HLEN.out.2.2.2).mono ?_
          rintro e w2 ⟨⟨v, rfl⟩, hb2, f2⟩
          have HB2 := hid hb2; have HFF := hid (HFg2.out.trans' f2)
          clear hb2 f2
          go_wp2_with fail
          refine bodyPost_end (results_none rfl _ _ _) rfl ?_
          refine ⟨⟨_, rfl⟩, ?_, HFF.out⟩
          rw [← HCUT.out]
          have h := HB2.out
          simpa using h
        · rw [decide_eq_false hc]
          have HBE : Hid (Blk x2 g 37 (avs (A ++ srt (P1 ++ Q1) ++ srt (P2 ++ Q2) ++ C) ++ z)) := hid (by
            have h := HBk2.out
            have : P2 = [] ∨ Q2 = [] := by
              rcases Nat.lt_or_ge mid E with h1 | h1
              · exact .inr (List.eq_nil_of_length_eq_zero (by have := HLEN.out; omega))
              · exact .inl (List.eq_nil_of_length_eq_zero (by have := HMD.out; omega))
            rcases this with rfl | rfl
            · rw [srt_nil_left HSDS.out.2.2.2]; simpa using h
            · rw [srt_nil_right HSDS.out.2.1]; simpa using h)
          clear hc
          go_wp2_with fail
          refine bodyPost_end (results_none rfl _ _ _) rfl ?_
          refine ⟨⟨_, rfl⟩, ?_, HFg2.out⟩
          rw [← HCUT.out]
          have h := HBE.out
          simpa using h
theorem mg_any : ∀ D, MgC D
  | 0 => fun g N cap A P Q C z w hD hN hc hB hl hP hQ hp hq => by omega
  | D + 1 => fun g N cap A P Q C z w hD hN hc hB hl hP hQ hp hq a m b ha hm hb => by
    by_cases h1 : P.length = 1
    · obtain ⟨x, rfl⟩ := List.length_eq_one_iff.1 h1
      have := symOne_any g N cap A Q C x z w (by simpa using hN) hc (by simpa using hB) hl hQ a Q.length ha rfl
      obtain rfl : a + 1 = m := hm
      obtain rfl : a + 1 + Q.length = b := hb
      exact this
    · by_cases h2 : Q.length = 1
      · obtain ⟨x, rfl⟩ := List.length_eq_one_iff.1 h2
        have := symLast_any g N cap A P C x z w (by simpa using hN) hc (by simpa using hB) hl hP a P.length ha rfl (by omega)
        obtain rfl : a + P.length = m := hm
        obtain rfl : a + P.length + 1 = b := hb
        exact this
      · exact mg_step D (mg_any D) g N cap A P Q C z w hD hN hc hB hl hP hQ (by omega) (by omega) a m b ha hm hb
/-- The first blocks of s, each sorted. -/
inductive Full (s : Nat) : Nat → Rd → Rd → Prop
  | nil : Full s 0 [] []
  | snoc {k : Nat} {x X b : Rd} : Full s k x X → b.length = s → Full s (k + 1) (x ++ b) (X ++ srt b)
/-- Blocks of s, the last one may be shorter, each sorted. -/
inductive Rest (s : Nat) : Rd → Rd → Prop
  | last {y : Rd} : y.length ≤ s → Rest s y (srt y)
  | more {b y Y : Rd} : b.length = s → Rest s y Y → Rest s (b ++ y) (srt b ++ Y)
theorem Full.len {s k : Nat} {x X : Rd} (h : Full s k x X) : x.length = k * s ∧ X.length = k * s := by
  induction h with
  | nil => simp
  | snoc h hb ih => simp [ih.1, ih.2, hb, srt_len, Nat.add_mul]
theorem Rest.len {s : Nat} {y Y : Rd} (h : Rest s y Y) : Y.length = y.length := by
  induction h with
  | last => rw [srt_len]
  | more hb h ih => simp [ih, srt_len]
theorem Full.rest {s k : Nat} {x X y Y : Rd} (h : Full s k x X) (hr : Rest s y Y) : Rest s (x ++ y) (X ++ Y) := by
  induction h generalizing y Y with
  | nil => simpa using hr
  | snoc h hb ih =>
    rw [List.append_assoc, List.append_assoc]
    exact ih (.more hb hr)
theorem srt_nil : srt [] = [] := rfl
theorem Rest.short {s : Nat} {y Y : Rd} (h : Rest s y Y) (hl : y.length ≤ s) : Y = srt y := by
  cases h with
  | last => rfl
  | @more b y Y hb h =>
    rw [List.length_append] at hl
    obtain rfl : y = [] := List.eq_nil_of_length_eq_zero (by omega)
    obtain rfl : Y = [] := List.eq_nil_of_length_eq_zero (by rw [h.len]; rfl)
    simp
theorem Rest.cut {s : Nat} {y Y : Rd} (h : Rest s y Y) (hl : s ≤ y.length) : ∃ b z Z, y = b ++ z ∧ Y = srt b ++ Z ∧ b.length = s ∧ Rest s z Z := by
  cases h with
  | last h => exact ⟨y, [], [], by simp, by simp, by omega, .last (Nat.zero_le _)⟩
  | @more b z Z hb h => exact ⟨b, z, Z, rfl, rfl, hb, h⟩
theorem Rest.two {s : Nat} {y Y : Rd} (h : Rest s y Y) (hl : 2 * s ≤ y.length) : ∃ b c z Z, y = b ++ c ++ z ∧ Y = srt b ++ srt c ++ Z ∧ b.length = s ∧ c.length = s ∧ Rest s z Z := by
  obtain ⟨b, z, Z, rfl, rfl, hb, h1⟩ := h.cut (by omega)
  obtain ⟨c, t, T, rfl, rfl, hc, h2⟩ := h1.cut (by rw [List.length_append] at hl; omega)
  exact ⟨b, c, t, T, by simp, by simp, hb, hc, h2⟩
theorem Rest.tail {s : Nat} {y Y : Rd} (h : Rest s y Y) (h1 : s < y.length) (h2 : y.length < 2 * s) : ∃ b c, y = b ++ c ∧ Y = srt b ++ srt c ∧ b.length = s ∧ 1 ≤ c.length := by
  obtain ⟨b, z, Z, rfl, rfl, hb, h3⟩ := h.cut (by omega)
  rw [List.length_append] at h1 h2
  rw [h3.short (by omega)]
  exact ⟨b, z, rfl, rfl, hb, by omega⟩
theorem Full.step {s k : Nat} {x X b c : Rd} (h : Full (2 * s) k x X) (hb : b.length = s) (hc : c.length = s) : Full (2 * s) (k + 1) (x ++ (b ++ c)) (X ++ srt (srt b ++ srt c)) := by
  rw [srt_app]
  exact .snoc h (by rw [List.length_append]; omega)
end Go.Proofs.YtnjemnmhkhkpeaaDoor.DN
