/-
  Part 12 of the proof: DnIn, DnSt, DnSm.
-/
import Derived.Test.YtnjemnmhkhkpeaaDoorDo11
import Derived.Test.YtnjemnmhkhkpeaaDoorDo04
set_option linter.unusedSimpArgs false
set_option linter.unusedVariables false
namespace Go.Proofs.YtnjemnmhkhkpeaaDoor.DN
set_option maxRecDepth 100000
open Go.RowKit K Go.Proofs.YtnjemnmhkhkpeaaDoor.BE
set_option maxHeartbeats 16000000 in
theorem insertRange_any (g N cap : Nat) (A0 r C0 : Rd) (z : List Value) (w : World) (hN : (A0 ++ r ++ C0).length = N) (hc : N ≤ cap) (hB : Blk w g 37 (avs (A0 ++ r ++ C0) ++ z)) (hl : N ≤ 1048576) (a b n : Nat) (ha : A0.length = a) (hn : r.length = n) (hb : a + n = b) :
    Calls Tryd.prog 52 #[.slice (some ⟨g, 0, none⟩) N cap, .int .i64 (a : Int), .int .i64 (b : Int), .func (.func 31) #[] #[]] w fun e w' => (∃ v, e = .returned v) ∧ Blk w' g 37 (avs (A0 ++ srt r ++ C0) ++ z) ∧ Fr (fun k => k = g) w w' := by
  have HNN := hid hn
  have HLN := hid (show A0.length = a ∧ a + n = b ∧ b + C0.length = N ∧ N ≤ cap from ⟨ha, hb, by simp at hN; omega, hc⟩)
  have hNi : (N : Int) ≤ 1048576 := by omega
  have hbN : (b : Int) ≤ N := by have := HLN.out; omega
  have ha0 : (0 : Int) ≤ a := by omega
  have hab : (a : Int) + n = b := by omega
  have hci : (N : Int) ≤ cap := by omega
  have HB0 := hid hB
  have HC := hid hc
  clear hB hn hl hc hN ha hb
  go_enter Tryd.func52, Tryd.ntmps52
  go_wp2_with fail
  go_loopw [8] (fun iv wr => ∃ (i : Nat), iv = .int .i64 ((a + i : Nat) : Int) ∧ 1 ≤ i ∧ (n = 0 ∨ i ≤ n ∨ i = 1) ∧ Hid (Blk wr g 37 (avs (A0 ++ (srt (r.take i) ++ r.drop i) ++ C0) ++ z) ∧ Fr (fun k => k = g) w wr)) (fun iv _ => b - (intOf iv).toNat)
  case atStart =>
    refine ⟨1, by push_cast; rfl, Nat.le_refl _, .inr (.inr rfl), hid ⟨?_, Fr.refl _ _⟩⟩
    have h1 : srt (r.take 1) = r.take 1 := by
      cases r with
      | nil => rfl
      | cons a q => rfl
    rw [h1, List.take_append_drop]
    exact HB0.out
  case round =>
    obtain ⟨i, rfl, hi1, hin, HI⟩ := hrel
    obtain ⟨ia, hia⟩ : ∃ ia, a + i = ia := ⟨_, rfl⟩
    have HIA := hid hia
    rw [hia]
    by_cases hlt : i < n
    · have hlti : (ia : Int) < b := by omega
      have hi0 : (0 : Int) ≤ ia := by omega
      clear hia
      obtain ⟨x, hx⟩ : ∃ x, r[i]? = some x := ⟨_, List.getElem?_eq_getElem (by rw [HNN.out]; exact hlt)⟩
      have hsplit : r.drop i = x :: r.drop (i + 1) := by
        have hl : i < r.length := by rw [HNN.out]; exact hlt
        rw [List.drop_eq_getElem_cons hl]
        rw [List.getElem?_eq_getElem hl] at hx
        rw [Option.some.inj hx]
      have htake : r.take (i + 1) = r.take i ++ [x] := by rw [List.take_add_one, hx]; rfl
      have hsl : (srt (r.take i)).length = i := by rw [srt_len, List.length_take, HNN.out]; omega
      have HFIN : Hid (srt (r.take (i + 1)) = insR x (srt (r.take i))) := hid (by rw [htake, srt_snoc])
      have HSD := hid (srt_sorted (r.take i))
      obtain ⟨P, hP⟩ : ∃ P, srt (r.take i) = P := ⟨_, rfl⟩
      obtain ⟨D, hD⟩ : ∃ D, r.drop (i + 1) = D := ⟨_, rfl⟩
      rw [hsplit, hP, hD] at HI
      have HI' : Hid (Blk wr g 37 (avs ((A0 ++ P) ++ x :: (D ++ C0)) ++ z) ∧ Fr (fun k => k = g) w wr) := hid ⟨by have h := HI.out.1; simpa using h, HI.out.2⟩
      rw [hP] at HSD HFIN hsl
      have HDD := hid hD; have HLT := hid hlt; have HSL := hid hsl
      clear hsplit htake hx hP hD hlt hin hsl
      go_wp2_with fail
      go_loopw [9] (fun jv wr2 => ∃ (j : Nat) (A C : Rd), jv = .int .i64 (j : Int) ∧ Hid (a + A.length = j) ∧ Hid (A ++ C = P ∧ (∀ c ∈ C, ltB x.1 c.1 = true)) ∧ Hid (Blk wr2 g 37 (avs ((A0 ++ A) ++ x :: (C ++ (D ++ C0))) ++ z) ∧ Fr (fun k => k = g) w wr2)) (fun jv _ => (intOf jv).toNat)
      case atStart => exact ⟨ia, P, [], rfl, hid (by rw [HSL.out]; exact HIA.out), hid ⟨by simp, fun c hc => by cases hc⟩, HI'⟩
      case round =>
        obtain ⟨j, A, C, rfl, HJA, HAC, HJ⟩ := hrel
        rcases List.eq_nil_or_concat A with rfl | ⟨A', l, rfl⟩
        · have hfin : srt (r.take (i + 1)) = x :: C := by
            rw [HFIN.out, ← HAC.out.1]
            exact insR_mid (A := []) (fun a ha => by cases ha) HAC.out.2
          have HB2 : Hid (Blk wr g 37 (avs (A0 ++ (srt (r.take (i + 1)) ++ r.drop (i + 1)) ++ C0) ++ z) ∧ Fr (fun k => k = g) w wr) := hid ⟨by rw [hfin, HDD.out]; have h := HJ.out.1; simpa using h, HJ.out.2⟩
          clear hfin
          obtain rfl : a = j := HJA.out
          go_wp2_with fail
          have hold : Facts.hold [] wr.drew := Facts.nil_hold _
          refine wpD_region hold (by kernel_rfl) 17 rfl ?_
          (refine K.pl 0 (v := ?_) rfl ?_ ?_; rotate_left; (intro _w; go_simp; try with_reducible rfl); simp only [Act.put, K.put3])
          (refine K.pl 1 (v := ?_) rfl ?_ ?_; rotate_left; (intro _w; go_simp; try with_reducible rfl); simp only [Act.put, K.put3])
          (refine K.pl 2 (v := (.bool false)) rfl ?_ ?_; (intro _w; exact exec_gtrI _ _ _ _ rfl .i64 (a : Int) (a : Int) rfl rfl _ (decide_eq_false (by omega)) _w); simp only [Act.put, K.put3])
          (refine K.pl 3 (v := ?_) rfl ?_ ?_; rotate_left; (intro _w; go_simp; try with_reducible rfl); simp only [Act.put, K.put3])
          (refine wpD_skip 4 rfl (by kernel_rfl) (by kernel_rfl) (by kernel_rfl) (fun _ _ _ h => h) (by rfl) (by assumption) ?_; simp only [Act.put, K.put3])
          (refine wpD_skip 5 rfl (by kernel_rfl) (by kernel_rfl) (by kernel_rfl) (fun _ _ _ h => h) (by rfl) (by assumption) ?_; simp only [Act.put, K.put3])
          (refine wpD_skip 6 rfl (by kernel_rfl) (by kernel_rfl) (by kernel_rfl) (fun _ _ _ h => h) (by rfl) (by assumption) ?_; simp only [Act.put, K.put3])
          (refine wpD_skip 7 rfl (by kernel_rfl) (by kernel_rfl) (by kernel_rfl) (fun _ _ _ h => h) (by rfl) (by assumption) ?_; simp only [Act.put, K.put3])
          (refine wpD_skip 8 rfl (by kernel_rfl) (by kernel_rfl) (by kernel_rfl) (fun _ _ _ h => h) (by rfl) (by assumption) ?_; simp only [Act.put, K.put3])
          (refine wpD_skip 9 rfl (by kernel_rfl) (by kernel_rfl) (by kernel_rfl) (fun _ _ _ h => h) (by rfl) (by assumption) ?_; simp only [Act.put, K.put3])
          (refine wpD_skip 10 rfl (by kernel_rfl) (by kernel_rfl) (by kernel_rfl) (fun _ _ _ h => h) (by rfl) (by assumption) ?_; simp only [Act.put, K.put3])
          (refine wpD_skip 11 rfl (by kernel_rfl) (by kernel_rfl) (by kernel_rfl) (fun _ _ _ h => h) (by rfl) (by assumption) ?_; simp only [Act.put, K.put3])
          (refine wpD_skip 12 rfl (by kernel_rfl) (by kernel_rfl) (by kernel_rfl) (fun _ _ _ h => h) (by rfl) (by assumption) ?_; simp only [Act.put, K.put3])
          (refine wpD_skip 13 rfl (by kernel_rfl) (by kernel_rfl) (by kernel_rfl) (fun _ _ _ h => h) (by rfl) (by assumption) ?_; simp only [Act.put, K.put3])
          (refine wpD_skip 14 rfl (by kernel_rfl) (by kernel_rfl) (by kernel_rfl) (fun _ _ _ h => h) (by rfl) (by assumption) ?_; simp only [Act.put, K.put3])
          (refine wpD_skip 15 rfl (by kernel_rfl) (by kernel_rfl) (by kernel_rfl) (fun _ _ _ h => h) (by rfl) (by assumption) ?_; simp only [Act.put, K.put3])
          (refine K.pl 16 (v := ?_) rfl ?_ ?_; rotate_left; (intro _w; go_simp; try with_reducible rfl); simp only [Act.put, K.put3])
          clear hold
          refine wpD_done (by kernel_rfl) ?_ _
          go_wp2_with fail
          refine ⟨⟨i + 1, by have := HIA.out; rw [← this]; push_cast; first | rfl | (congr 1; omega), by omega, by have := HLT.out; omega, hid ⟨HB2.out.1, HB2.out.2.drew⟩⟩, by have := HLT.out; have := HIA.out; have := HLN.out; simp [intOf]; omega⟩
        · rw [List.concat_eq_append] at HJA HAC HJ
          obtain ⟨m, hm⟩ : ∃ m, (A0 ++ A').length = m := ⟨_, rfl⟩
          have HM := hid hm
          have hma : a + A'.length = m := by rw [← hm, List.length_append, HLN.out.1]
          have hmai : (a : Int) ≤ m := by omega
          have hlen : A'.length + 1 + C.length = i := by have h := congrArg List.length HAC.out.1; rw [HSL.out] at h; simp at h; omega
          have hj1 : (m : Int) + 1 < N := by have := HLT.out; have := HLN.out; omega
          have hj0 : (0 : Int) ≤ (m : Int) + 1 := by omega
          have hm1 : (m : Int) < N := by omega
          have hm0 : (0 : Int) ≤ (m : Int) := by omega
          have HJB : Hid (Blk wr g 37 (avs ((A0 ++ A') ++ l :: x :: (C ++ (D ++ C0))) ++ z)) := hid (by have h := HJ.out.1; simpa using h)
          have hr1 : wr.rangeAt g ((m + 1) * 2) [.string (sb x.1), .string (sb x.2)] := by
            have h : Blk wr g 37 (avs (((A0 ++ A') ++ [l]) ++ x :: (C ++ (D ++ C0))) ++ z) := by have h := HJB.out; simpa using h
            have := avs_range h
            rwa [List.length_append, hm] at this
          have hr2 : wr.rangeAt g (m * 2) [.string (sb l.1), .string (sb l.2)] := by
            have := avs_range HJB.out
            rwa [hm] at this
          have HFJ := hid HJ.out.2
          have HCMP := hid (fun w => cmp_any x l w)
          have hcl := cmp_lt x.1 l.1
          obtain ⟨q, hq⟩ : ∃ q : Int, Lib.compareBytes x.1 l.1 = q := ⟨_, rfl⟩
          rw [hq] at hcl HCMP
          obtain rfl : m + 1 = j := by have h := HJA.out; rw [List.length_append] at h; simp only [List.length_cons, List.length_nil] at h; omega
          have hjl : ((m + 1 : Nat) : Int) = (m : Int) + 1 := by omega
          rw [hjl]
          clear hlen hq hjl HJ hm hma
          go_wp2_with fail
          cases hlb : ltB x.1 l.1 with
          | false =>
            have HCL : Hid (decide (q < 0) = false) := hid (by rw [hcl, hlb])
            have hfin : srt (r.take (i + 1)) = A' ++ l :: x :: C := by
              have hP : P = (A' ++ [l]) ++ C := HAC.out.1.symm
              have hsd : Sd (A' ++ [l]) := by have h := HSD.out; rw [hP] at h; exact (List.pairwise_append.1 h).1
              rw [HFIN.out, hP, insR_mid (all_le hsd hlb) HAC.out.2]
              simp
            have HFI := hid hfin
            clear hcl hlb hfin
            have hold : Facts.hold [(8, fun w' => w'.rangeAt g ((m + 1) * 2) [.string (sb x.1), .string (sb x.2)]), (13, fun w' => w'.rangeAt g (m * 2) [.string (sb l.1), .string (sb l.2)])] wr.drew := Facts.cons_hold hr1 (Facts.cons_hold hr2 (Facts.nil_hold _))
            refine wpD_region hold (by kernel_rfl) 17 rfl ?_
            (refine K.pl 0 (v := ?_) rfl ?_ ?_; rotate_left; (intro _w; go_simp; try with_reducible rfl); simp only [Act.put, K.put3])
            (refine K.pl 1 (v := ?_) rfl ?_ ?_; rotate_left; (intro _w; go_simp; try with_reducible rfl); simp only [Act.put, K.put3])
            (refine K.pl 2 (v := (.bool true)) rfl ?_ ?_; (intro _w; exact exec_gtrI _ _ _ _ rfl .i64 ((m : Int) + 1) (a : Int) rfl rfl _ (decide_eq_true (by omega)) _w); simp only [Act.put, K.put3])
            (refine K.pl 3 (v := ?_) rfl ?_ ?_; rotate_left; (intro _w; go_simp; try with_reducible rfl); simp only [Act.put, K.put3])
            (refine K.pl 4 (v := ?_) rfl ?_ ?_; rotate_left; (intro _w; go_simp; try with_reducible rfl); simp only [Act.put, K.put3])
            (refine K.pl 5 (v := ?_) rfl ?_ ?_; rotate_left; (intro _w; go_simp; try with_reducible rfl); simp only [Act.put, K.put3])
            (refine K.pl 6 (v := ?_) rfl ?_ ?_; rotate_left; (intro _w; go_simp; try with_reducible rfl); simp only [Act.put, K.put3])
            (refine K.pl 7 (v := (.pointer (some ⟨g, (m + 1) * 2, none⟩))) rfl ?_ ?_; (intro _w; go_simp; skip); simp only [Act.put, K.put3])
            (refine K.tk 8 _ rfl K.m0 (exec_load _ _ rfl g ((m + 1) * 2) rfl _ _ rfl rfl infoAv) ?_; simp only [Act.put, K.put3])
            (refine K.pl 9 (v := ?_) rfl ?_ ?_; rotate_left; (intro _w; go_simp; try with_reducible rfl); simp only [Act.put, K.put3])
            (refine K.pl 10 (v := ?_) rfl ?_ ?_; rotate_left; (intro _w; go_simp; try with_reducible rfl); simp only [Act.put, K.put3])
            (refine K.pl 11 (v := (.int .i64 (m : Int))) rfl ?_ ?_; (intro _w; exact exec_subI _ _ _ _ rfl ((m : Int) + 1) 1 rfl rfl _ (by rw [IntKind.wrap_i64]; omega) _w); simp only [Act.put, K.put3])
            (refine K.pl 12 (v := (.pointer (some ⟨g, m * 2, none⟩))) rfl ?_ ?_; (intro _w; go_simp; skip); simp only [Act.put, K.put3])
            (refine K.tk 13 _ rfl K.m1 (exec_load _ _ rfl g (m * 2) rfl _ _ rfl rfl infoAv) ?_; simp only [Act.put, K.put3])
            clear hold
            refine K.on 14 [] rfl (fun K14 hK14 => ?_)
            refine wp_call _ _ _ rfl 31 [] rfl (fun vs w => by kernel_rfl) [.agg #[.string (sb x.1), .string (sb x.2)], .agg #[.string (sb l.1), .string (sb l.2)]] (by rfl) ?_
            refine (HCMP.out wr.drew).mono ?_
            rintro e w3 ⟨rfl, f3⟩
            have HF3 := hid ((Fr.refl No wr).drew.trans' f3)
            have HB3 := hid (HJB.out.fr HF3.out id)
            refine ⟨_, rfl, hK14 _ _ (Facts.nil_hold _) ?_⟩
            clear hK14 K14 f3
            simp only [Act.put, K.put3]
            have hold : Facts.hold [] w3 := Facts.nil_hold _
            (refine K.pl 15 (v := (.bool false)) rfl ?_ ?_; (intro _w; exact exec_lssI _ _ _ _ rfl .i64 q 0 rfl rfl _ HCL.out _w); simp only [Act.put, K.put3])
            (refine K.pl 16 (v := ?_) rfl ?_ ?_; rotate_left; (intro _w; go_simp; try with_reducible rfl); simp only [Act.put, K.put3])
            clear hold
            refine wpD_done (by kernel_rfl) ?_ _
            go_wp2_with fail
            refine ⟨⟨i + 1, by have := HIA.out; rw [← this]; push_cast; first | rfl | (congr 1; omega), by omega, by have := HLT.out; omega, hid ⟨?_, HFJ.out.trans HF3.out fun k e => e.elim⟩⟩, by have := HLT.out; have := HIA.out; have := HLN.out; simp [intOf]; omega⟩
            rw [HFI.out, HDD.out]
            have h := HB3.out
            simpa using h
          | true =>
            have HCL : Hid (decide (q < 0) = true) := hid (by rw [hcl, hlb])
            have HLB := hid hlb
            clear hcl hlb
            have hold : Facts.hold [(8, fun w' => w'.rangeAt g ((m + 1) * 2) [.string (sb x.1), .string (sb x.2)]), (13, fun w' => w'.rangeAt g (m * 2) [.string (sb l.1), .string (sb l.2)])] wr.drew := Facts.cons_hold hr1 (Facts.cons_hold hr2 (Facts.nil_hold _))
            refine wpD_region hold (by kernel_rfl) 17 rfl ?_
            (refine K.pl 0 (v := ?_) rfl ?_ ?_; rotate_left; (intro _w; go_simp; try with_reducible rfl); simp only [Act.put, K.put3])
            (refine K.pl 1 (v := ?_) rfl ?_ ?_; rotate_left; (intro _w; go_simp; try with_reducible rfl); simp only [Act.put, K.put3])
            (refine K.pl 2 (v := (.bool true)) rfl ?_ ?_; (intro _w; exact exec_gtrI _ _ _ _ rfl .i64 ((m : Int) + 1) (a : Int) rfl rfl _ (decide_eq_true (by omega)) _w); simp only [Act.put, K.put3])
            (refine K.pl 3 (v := ?_) rfl ?_ ?_; rotate_left; (intro _w; go_simp; try with_reducible rfl); simp only [Act.put, K.put3])
            (refine K.pl 4 (v := ?_) rfl ?_ ?_; rotate_left; (intro _w; go_simp; try with_reducible rfl); simp only [Act.put, K.put3])
            (refine K.pl 5 (v := ?_) rfl ?_ ?_; rotate_left; (intro _w; go_simp; try with_reducible rfl); simp only [Act.put, K.put3])
            (refine K.pl 6 (v := ?_) rfl ?_ ?_; rotate_left; (intro _w; go_simp; try with_reducible rfl); simp only [Act.put, K.put3])
            (refine K.pl 7 (v := (.pointer (some ⟨g, (m + 1) * 2, none⟩))) rfl ?_ ?_; (intro _w; go_simp; skip); simp only [Act.put, K.put3])
            (refine K.tk 8 _ rfl K.m0 (exec_load _ _ rfl g ((m + 1) * 2) rfl _ _ rfl rfl infoAv) ?_; simp only [Act.put, K.put3])
            (refine K.pl 9 (v := ?_) rfl ?_ ?_; rotate_left; (intro _w; go_simp; try with_reducible rfl); simp only [Act.put, K.put3])
            (refine K.pl 10 (v := ?_) rfl ?_ ?_; rotate_left; (intro _w; go_simp; try with_reducible rfl); simp only [Act.put, K.put3])
            (refine K.pl 11 (v := (.int .i64 (m : Int))) rfl ?_ ?_; (intro _w; exact exec_subI _ _ _ _ rfl ((m : Int) + 1) 1 rfl rfl _ (by rw [IntKind.wrap_i64]; omega) _w); simp only [Act.put, K.put3])
            (refine K.pl 12 (v := (.pointer (some ⟨g, m * 2, none⟩))) rfl ?_ ?_; (intro _w; go_simp; skip); simp only [Act.put, K.put3])
            (refine K.tk 13 _ rfl K.m1 (exec_load _ _ rfl g (m * 2) rfl _ _ rfl rfl infoAv) ?_; simp only [Act.put, K.put3])
            clear hold
            refine K.on 14 [] rfl (fun K14 hK14 => ?_)
            refine wp_call _ _ _ rfl 31 [] rfl (fun vs w => by kernel_rfl) [.agg #[.string (sb x.1), .string (sb x.2)], .agg #[.string (sb l.1), .string (sb l.2)]] (by rfl) ?_
            refine (HCMP.out wr.drew).mono ?_
            rintro e w3 ⟨rfl, f3⟩
            have HF3 := hid ((Fr.refl No wr).drew.trans' f3)
            have HB3 := hid (HJB.out.fr HF3.out id)
            refine ⟨_, rfl, hK14 _ _ (Facts.nil_hold _) ?_⟩
            clear hK14 K14 f3
            simp only [Act.put, K.put3]
            have hold : Facts.hold [] w3 := Facts.nil_hold _
            (refine K.pl 15 (v := (.bool true)) rfl ?_ ?_; (intro _w; exact exec_lssI _ _ _ _ rfl .i64 q 0 rfl rfl _ HCL.out _w); simp only [Act.put, K.put3])
            (refine K.pl 16 (v := ?_) rfl ?_ ?_; rotate_left; (intro _w; go_simp; try with_reducible rfl); simp only [Act.put, K.put3])
            clear hold
            refine wpD_done (by kernel_rfl) ?_ _
            go_wp2_with fail
            have hr3 : w3.rangeAt g (m * 2) [.string (sb l.1), .string (sb l.2)] := HF3.out.range hr2 id
            have hr4 : w3.rangeAt g ((m + 1) * 2) [.string (sb x.1), .string (sb x.2)] := HF3.out.range hr1 id
            have hold : Facts.hold [(9, fun w' => w'.rangeAt g (m * 2) [.string (sb l.1), .string (sb l.2)]), (13, fun w' => w'.rangeAt g ((m + 1) * 2) [.string (sb x.1), .string (sb x.2)])] w3.drew := Facts.cons_hold hr3 (Facts.cons_hold hr4 (Facts.nil_hold _))
            refine wpD_region hold (by kernel_rfl) 18 rfl ?_
            (refine K.pl 0 (v := ?_) rfl ?_ ?_; rotate_left; (intro _w; go_simp; try with_reducible rfl); simp only [Act.put, K.put3])
            (refine K.pl 1 (v := ?_) rfl ?_ ?_; rotate_left; (intro _w; go_simp; try with_reducible rfl); simp only [Act.put, K.put3])
            (refine K.pl 2 (v := ?_) rfl ?_ ?_; rotate_left; (intro _w; go_simp; try with_reducible rfl); simp only [Act.put, K.put3])
            (refine K.pl 3 (v := ?_) rfl ?_ ?_; rotate_left; (intro _w; go_simp; try with_reducible rfl); simp only [Act.put, K.put3])
            (refine K.pl 4 (v := (.int .i64 (m : Int))) rfl ?_ ?_; (intro _w; exact exec_subI _ _ _ _ rfl ((m : Int) + 1) 1 rfl rfl _ (by rw [IntKind.wrap_i64]; omega) _w); simp only [Act.put, K.put3])
            (refine K.pl 5 (v := ?_) rfl ?_ ?_; rotate_left; (intro _w; go_simp; try with_reducible rfl); simp only [Act.put, K.put3])
            (refine K.pl 6 (v := ?_) rfl ?_ ?_; rotate_left; (intro _w; go_simp; try with_reducible rfl); simp only [Act.put, K.put3])
            (refine K.pl 7 (v := (.int .i64 (m : Int))) rfl ?_ ?_; (intro _w; exact exec_subI _ _ _ _ rfl ((m : Int) + 1) 1 rfl rfl _ (by rw [IntKind.wrap_i64]; omega) _w); simp only [Act.put, K.put3])
            (refine K.pl 8 (v := (.pointer (some ⟨g, m * 2, none⟩))) rfl ?_ ?_; (intro _w; go_simp; skip); simp only [Act.put, K.put3])
            (refine K.tk 9 _ rfl K.m0 (exec_load _ _ rfl g (m * 2) rfl _ _ rfl rfl infoAv) ?_; simp only [Act.put, K.put3])
            (refine K.pl 10 (v := ?_) rfl ?_ ?_; rotate_left; (intro _w; go_simp; try with_reducible rfl); simp only [Act.put, K.put3])
            (refine K.pl 11 (v := ?_) rfl ?_ ?_; rotate_left; (intro _w; go_simp; try with_reducible rfl); simp only [Act.put, K.put3])
            (refine K.pl 12 (v := (.pointer (some ⟨g, (m + 1) * 2, none⟩))) rfl ?_ ?_; (intro _w; go_simp; skip); simp only [Act.put, K.put3])
            (refine K.tk 13 _ rfl K.m1 (exec_load _ _ rfl g ((m + 1) * 2) rfl _ _ rfl rfl infoAv) ?_; simp only [Act.put, K.put3])
            (refine K.pl 14 (v := (.pointer (some ⟨g, (m + 1) * 2, none⟩))) rfl ?_ ?_; (intro _w; go_simp; skip); simp only [Act.put, K.put3])
            clear hold
            have hlenB : (m + 1) * 2 + 2 ≤ (avs ((A0 ++ A') ++ l :: x :: (C ++ (D ++ C0))) ++ z).length := by
              rw [List.length_append, avs_len]
              have := HM.out
              rw [List.length_append] at this
              simp
              omega
            have HLB2 := hid hlenB
            clear hlenB
            refine K.on 15 [] rfl (fun K15 hK15 => ?_)
            refine wp_storeV _ _ _ rfl g ((m + 1) * 2) (.agg #[.string (sb l.1), .string (sb l.2)]) [.string (sb l.1), .string (sb l.2)] rfl rfl rfl 37 _ (show Blk w3.drew g _ _ from HB3.out) (by have := HLB2.out; simpa using this) infoAv (by simp [Value.oneCell']) ?_
            intro w5 HB5 HF5 HS5
            refine hK15 _ _ (Facts.nil_hold _) ?_
            clear hK15 K15
            simp only [Act.put, K.put3]
            have hold : Facts.hold [] w5 := Facts.nil_hold _
            (refine K.pl 16 (v := (.pointer (some ⟨g, m * 2, none⟩))) rfl ?_ ?_; (intro _w; go_simp; skip); simp only [Act.put, K.put3])
            clear hold
            refine K.on 17 [] rfl (fun K17 hK17 => ?_)
            refine wp_storeV _ _ _ rfl g (m * 2) (.agg #[.string (sb x.1), .string (sb x.2)]) [.string (sb x.1), .string (sb x.2)] rfl rfl rfl 37 _ HB5.out (by rw [spl_length _ _ _ (by have := HLB2.out; simpa using this)]; have := HLB2.out; simp at *; omega) infoAv (by simp [Value.oneCell']) ?_
            intro w6 HB6 HF6 HS6
            refine hK17 _ _ (Facts.nil_hold _) ?_
            clear hK17 K17
            simp only [Act.put, K.put3]
            refine wpD_done (by kernel_rfl) ?_ _
            go_wp2_with fail
            refine ⟨⟨m, A', l :: C, by go_num, hid (by have h := HM.out; rw [List.length_append, HLN.out.1] at h; exact h), hid ⟨by have h := HAC.out.1; simpa using h, fun c hc => ?_⟩, hid ⟨?_, ?_⟩⟩, by simp [intOf]⟩
            · rcases List.mem_cons.1 hc with rfl | hc
              · exact HLB.out
              · exact HAC.out.2 c hc
            · have h := HB6.out
              rw [← HM.out, swap_cells] at h
              exact h
            · exact (HFJ.out.trans HF3.out fun k e => e.elim).trans ((Fr.refl (fun k => k = g) w3).drew.trans' (HF5.out.trans' HF6.out)) fun k e => .inl e
    · have hd : i = 1 ∨ i = n ∨ n = 0 := by omega
      have hge : ¬ (ia : Int) < b := by omega
      clear hia
      have hfin : srt (r.take i) ++ r.drop i = srt r := by
        rcases Nat.lt_or_ge r.length i with hri | hri
        · rw [List.take_of_length_le (by omega), List.drop_of_length_le (by omega), List.append_nil]
        · have : r.length = i := by have := HNN.out; omega
          rw [← this, List.take_length, List.drop_length, List.append_nil]
      have HBF := HI.out.1
      rw [hfin] at HBF
      have HBG := hid HBF
      clear HBF hfin
      go_wp2_with fail
      go_end0
      exact ⟨⟨_, rfl⟩, by have h := HBG.out; simpa using h, HI.out.2⟩
/-- What stands at a key. -/
def at_ (t : B) (r : Rd) : Rd := r.filter fun a => a.1 == t
theorem at_app (t : B) (r s : Rd) : at_ t (r ++ s) = at_ t r ++ at_ t s := by simp [at_]
theorem at_none {t : B} {r : Rd} (h : ∀ a ∈ r, a.1 ≠ t) : at_ t r = [] := by
  unfold at_
  rw [List.filter_eq_nil_iff]
  intro a ha
  simp [h a ha]
theorem insR_at (t : B) (x : Av) : ∀ {s : Rd}, Sd s → at_ t (insR x s) = at_ t s ++ at_ t [x]
  | [], _ => by simp [insR, at_]
  | b :: s, h => by
    obtain ⟨h1, h2⟩ := List.pairwise_cons.1 h
    unfold insR
    split
    · rename_i hlt
      by_cases hx : x.1 = t
      · have hn : at_ t (b :: s) = [] := at_none fun a ha e => by
          rcases List.mem_cons.1 ha with rfl | ha
          · rw [hx, e, ltB_irr] at hlt; cases hlt
          · have h3 := h1 a ha
            rw [e, ← hx, hlt] at h3
            cases h3
        rw [show x :: b :: s = [x] ++ (b :: s) from rfl, at_app, hn]
        simp
      · have hn : at_ t [x] = [] := at_none fun a ha e => by rw [List.mem_singleton.1 ha] at e; exact hx e
        rw [show x :: b :: s = [x] ++ (b :: s) from rfl, at_app, hn]
        simp
    · rw [show b :: insR x s = [b] ++ insR x s from rfl, at_app, insR_at t x h2, show b :: s = [b] ++ s from rfl, at_app, List.append_assoc]
theorem srt_at (t : B) (r : Rd) : at_ t (srt r) = at_ t r := by
  have h : ∀ l : Rd, at_ t (srt l.reverse) = at_ t l.reverse := fun l => by
    induction l with
    | nil => rfl
    | cons x l ih => rw [List.reverse_cons, srt_snoc, insR_at t x (srt_sorted _), ih, at_app]
  have := h r.reverse
  rwa [List.reverse_reverse] at this
theorem sorted_one : ∀ {s s' : Rd}, Sd s → Sd s' → (∀ t, at_ t s = at_ t s') → s = s'
  | [], [], _, _, _ => rfl
  | [], c :: s', _, _, h => by
    have := h c.1
    simp [at_] at this
  | b :: s, [], _, _, h => by
    have := h b.1
    simp [at_] at this
  | b :: s, c :: s', h1, h2, h => by
    obtain ⟨a1, a2⟩ := List.pairwise_cons.1 h1
    obtain ⟨b1, b2⟩ := List.pairwise_cons.1 h2
    have hbc : ltB b.1 c.1 = false := by
      have hm : b ∈ at_ b.1 (c :: s') := by rw [← h b.1]; simp [at_]
      have hm2 : b ∈ c :: s' := (List.mem_filter.1 hm).1
      rcases List.mem_cons.1 hm2 with rfl | hm2
      · exact ltB_irr _
      · exact b1 b hm2
    have hcb : ltB c.1 b.1 = false := by
      have hm : c ∈ at_ c.1 (b :: s) := by rw [h c.1]; simp [at_]
      have hm2 : c ∈ b :: s := (List.mem_filter.1 hm).1
      rcases List.mem_cons.1 hm2 with rfl | hm2
      · exact ltB_irr _
      · exact a1 c hm2
    have hk : b.1 = c.1 := ltB_tot _ _ hbc hcb
    have hh := h b.1
    have e1 : at_ b.1 (b :: s) = b :: at_ b.1 s := by simp [at_]
    have e2 : at_ b.1 (c :: s') = c :: at_ b.1 s' := by simp [at_, hk]
    rw [e1, e2] at hh
    obtain ⟨rfl, -⟩ := List.cons.inj hh
    rw [sorted_one a2 b2 fun t => by
      have := h t
      rw [show b :: s = [b] ++ s from rfl, show b :: s' = [b] ++ s' from rfl, at_app, at_app] at this
      exact List.append_cancel_left this]
theorem srt_is {r s : Rd} (h : Sd s) (ha : ∀ t, at_ t s = at_ t r) : s = srt r := sorted_one h (srt_sorted r) fun t => by rw [ha, srt_at]
theorem srt_of_sorted {r : Rd} (h : Sd r) : srt r = r := (srt_is h fun _ => rfl).symm
/-- Parts that are sorted already. -/
theorem srt_app (r s : Rd) : srt (srt r ++ srt s) = srt (r ++ s) := (srt_is (srt_sorted _) fun t => by rw [srt_at, at_app, srt_at, srt_at, at_app])
/-- Two sorted lists, each cut in two: what stands behind the cuts is not below what stands ahead, and nothing of the second's first part is like what stands in the first's second part. -/
theorem srt_parts {P1 P2 Q1 Q2 : Rd} (h1 : ∀ p ∈ P1, ∀ q ∈ P2, ltB q.1 p.1 = false) (h2 : ∀ p ∈ P1, ∀ q ∈ Q2, ltB q.1 p.1 = false) (h3 : ∀ p ∈ Q1, ∀ q ∈ P2, ltB p.1 q.1 = true) (h4 : ∀ p ∈ Q1, ∀ q ∈ Q2, ltB q.1 p.1 = false) :
    srt (P1 ++ Q1) ++ srt (P2 ++ Q2) = srt ((P1 ++ P2) ++ (Q1 ++ Q2)) := by
  refine srt_is ?_ fun t => ?_
  · refine List.pairwise_append.2 ⟨srt_sorted _, srt_sorted _, fun a ha b hb => ?_⟩
    rw [srt_mem, List.mem_append] at ha hb
    rcases ha with ha | ha <;> rcases hb with hb | hb
    · exact h1 a ha b hb
    · exact h2 a ha b hb
    · exact ltB_asymm (h3 a ha b hb)
    · exact h4 a ha b hb
  · rw [at_app, srt_at, srt_at, at_app, at_app, at_app, at_app, at_app]
    have hx : at_ t Q1 ++ at_ t P2 = at_ t P2 ++ at_ t Q1 := by
      by_cases hq : at_ t Q1 = []
      · rw [hq]; simp
      · have hp : at_ t P2 = [] := at_none fun p hp e => by
          obtain ⟨q, hq'⟩ := List.exists_mem_of_ne_nil _ hq
          obtain ⟨hq1, hq2⟩ := List.mem_filter.1 hq'
          have h5 := h3 q hq1 p hp
          rw [e, show q.1 = t by simpa using hq2, ltB_irr] at h5
          cases h5
        rw [hp]; simp
    simp only [List.append_assoc]
    rw [← List.append_assoc (at_ t Q1), hx, List.append_assoc]
/-- One ahead of a sorted list. -/
theorem srt_one_left {x : Av} {Q1 Q2 : Rd} (h1 : ∀ q ∈ Q1, ltB q.1 x.1 = true) (h2 : ∀ q ∈ Q2, ltB q.1 x.1 = false) (hs : Sd (Q1 ++ Q2)) : srt (x :: (Q1 ++ Q2)) = Q1 ++ x :: Q2 := by
  obtain ⟨s1, s2, s3⟩ := List.pairwise_append.1 hs
  have h := srt_parts (P1 := []) (P2 := [x]) (Q1 := Q1) (Q2 := Q2) (fun p hp => by cases hp) (fun p hp => by cases hp) (fun p hp q hq => by rw [List.mem_singleton.1 hq]; exact h1 p hp) s3
  simp only [List.nil_append, List.singleton_append] at h
  rw [← h, srt_of_sorted s1, srt_of_sorted (List.pairwise_cons.2 ⟨h2, s2⟩)]
/-- One behind a sorted list. -/
theorem srt_one_right {y : Av} {P1 P2 : Rd} (h1 : ∀ p ∈ P1, ltB y.1 p.1 = false) (h2 : ∀ p ∈ P2, ltB y.1 p.1 = true) (hs : Sd (P1 ++ P2)) : srt ((P1 ++ P2) ++ [y]) = P1 ++ y :: P2 := by
  rw [srt_snoc, srt_of_sorted hs, insR_mid h1 h2]
theorem sd_get {Q : Rd} (h : Sd Q) {i j : Nat} {p q : Av} (hij : i < j) (hp : Q[i]? = some p) (hq : Q[j]? = some q) : ltB q.1 p.1 = false := by
  obtain ⟨h1, rfl⟩ := List.getElem?_eq_some_iff.1 hp
  obtain ⟨h2, rfl⟩ := List.getElem?_eq_some_iff.1 hq
  exact List.pairwise_iff_getElem.1 h i j h1 h2 hij
set_option maxHeartbeats 16000000 in
theorem symOne_any (g N cap : Nat) (A Q C : Rd) (x : Av) (z : List Value) (w : World) (hN : (A ++ x :: Q ++ C).length = N) (hc : N ≤ cap) (hB : Blk w g 37 (avs (A ++ x :: Q ++ C) ++ z)) (hl : N ≤ 1048576) (hs : Sd Q) (a n : Nat) (ha : A.length = a) (hn : Q.length = n) :
    Calls Tryd.prog 53 #[.slice (some ⟨g, 0, none⟩) N cap, .int .i64 (a : Int), .int .i64 ((a + 1 : Nat) : Int), .int .i64 ((a + 1 + n : Nat) : Int), .func (.func 31) #[] #[]] w fun e w' => (∃ v, e = .returned v) ∧ Blk w' g 37 (avs (A ++ srt (x :: Q) ++ C) ++ z) ∧ Fr (fun k => k = g) w w' := by
  have HB0 := hid hB
  have HSD := hid hs
  have HLN := hid (show A.length = a ∧ Q.length = n ∧ a + 1 + n + C.length = N ∧ N ≤ cap ∧ N ≤ 1048576 from ⟨ha, hn, by simp at hN; omega, hc, hl⟩)
  obtain ⟨m, hm⟩ : ∃ m, a + 1 = m := ⟨_, rfl⟩
  obtain ⟨b, hb⟩ : ∃ b, m + n = b := ⟨_, rfl⟩
  have HM := hid (show a + 1 = m ∧ m + n = b from ⟨hm, hb⟩)
  rw [hm, hb]
  have hma : (m : Int) - a = 1 := by omega
  have hbi : (b : Int) ≤ 1048576 := by have := HLN.out; omega
  have hm0 : (0 : Int) ≤ m := by omega
  clear hB hN hc hl hs ha hn hm hb
  go_enter Tryd.func53, Tryd.ntmps53
  go_wp2_with fail
  go_loopw [10, 11] (fun iv jv wr => ∃ (i j : Nat), iv = .int .i64 ((m + i : Nat) : Int) ∧ jv = .int .i64 ((m + j : Nat) : Int) ∧ i ≤ j ∧ j ≤ n ∧ Hid ((∀ t q, t < i → Q[t]? = some q → ltB q.1 x.1 = true) ∧ (∀ t q, j ≤ t → Q[t]? = some q → ltB q.1 x.1 = false)) ∧ Hid (Fr No w wr)) (fun iv jv _ => (intOf jv).toNat - (intOf iv).toNat)
  case atStart => exact ⟨0, n, by simp, by first | rfl | (have := HM.out; congr 2; omega), Nat.zero_le _, Nat.le_refl _, hid ⟨fun t q h _ => by omega, fun t q h hq => by have := (List.getElem?_eq_some_iff.1 hq).1; have := HLN.out; omega⟩, hid (Fr.refl _ _)⟩
  case round =>
    obtain ⟨i, j, rfl, rfl, hij, hj, HS, HF⟩ := hrel
    obtain ⟨I, hI⟩ : ∃ I, m + i = I := ⟨_, rfl⟩
    obtain ⟨J, hJ⟩ : ∃ J, m + j = J := ⟨_, rfl⟩
    rw [hI, hJ]
    by_cases hlt : I < J
    · have hlti : (I : Int) < J := by omega
      have hI0 : (0 : Int) ≤ I := by omega
      have hJb : (J : Int) ≤ 1048576 := by have := HM.out; omega
      obtain ⟨H, hH⟩ : ∃ H, (I + J) / 2 = H := ⟨_, rfl⟩
      have hIH : ((I : Int) + J) / 2 = (H : Int) := by omega
      have hHI : I ≤ H := by omega
      have hHJ : H < J := by omega
      obtain ⟨t, ht⟩ : ∃ t, m + t = H := ⟨H - m, by omega⟩
      have htn : t < n := by omega
      obtain ⟨q, hq⟩ : ∃ q, Q[t]? = some q := ⟨_, List.getElem?_eq_getElem (by have := HLN.out; omega)⟩
      have hqs : Q.take t ++ q :: Q.drop (t + 1) = Q := by
        obtain ⟨h1, rfl⟩ := List.getElem?_eq_some_iff.1 hq
        rw [← List.drop_eq_getElem_cons h1, List.take_append_drop]
      have hBw := HB0.out.fr HF.out id
      have hr1 : wr.rangeAt g (H * 2) [.string (sb q.1), .string (sb q.2)] := by
        have h : Blk wr g 37 (avs ((A ++ x :: Q.take t) ++ q :: (Q.drop (t + 1) ++ C)) ++ z) := by
          have h := hBw
          rw [← hqs] at h
          simpa using h
        have := avs_range h
        rwa [show (A ++ x :: Q.take t).length = H by have := HLN.out; have := HM.out; simp; omega] at this
      have hr2 : wr.rangeAt g (a * 2) [.string (sb x.1), .string (sb x.2)] := by
        have h : Blk wr g 37 (avs (A ++ x :: (Q ++ C)) ++ z) := by have h := hBw; simpa using h
        have := avs_range h
        rwa [HLN.out.1] at this
      have HCMP := hid (fun w => cmp_any q x w)
      have hcl := cmp_lt q.1 x.1
      obtain ⟨cv, hcv⟩ : ∃ cv : Int, Lib.compareBytes q.1 x.1 = cv := ⟨_, rfl⟩
      rw [hcv] at hcl HCMP
      have HQ := hid hq
      have HT := hid (show m + i = I ∧ m + j = J ∧ m + t = H ∧ i ≤ t ∧ t < j ∧ j ≤ n from ⟨hI, hJ, ht, by omega, by omega, hj⟩)
      have ha0 : (0 : Int) ≤ a := by omega
      have haN : (a : Int) < N := by have := HLN.out; omega
      have hH0 : (0 : Int) ≤ H := by omega
      have hHN : (H : Int) < N := by have := HLN.out; have := HM.out; omega
      clear hH hHI hHJ ht htn hq hqs hBw hcv hI hJ hij hj hlt
      go_wp2_with fail
      try rw [hIH]
      cases hlb : ltB q.1 x.1 with
      | true =>
        have HCL : Hid (decide (cv < 0) = true) := hid (by rw [hcl, hlb])
        have HLB := hid hlb
        clear hcl hlb
        have hold : Facts.hold [(4, fun w' => w'.rangeAt g (H * 2) [.string (sb q.1), .string (sb q.2)]), (8, fun w' => w'.rangeAt g (a * 2) [.string (sb x.1), .string (sb x.2)])] wr.drew := Facts.cons_hold hr1 (Facts.cons_hold hr2 (Facts.nil_hold _))
        refine wpD_region hold (by kernel_rfl) 11 rfl ?_
        (refine K.pl 0 (v := ?_) rfl ?_ ?_; rotate_left; (intro _w; go_simp; try with_reducible rfl); simp only [Act.put, K.put3])
        (refine K.pl 1 (v := ?_) rfl ?_ ?_; rotate_left; (intro _w; go_simp; try with_reducible rfl); simp only [Act.put, K.put3])
        (refine K.pl 2 (v := ?_) rfl ?_ ?_; rotate_left; (intro _w; go_simp; try with_reducible rfl); simp only [Act.put, K.put3])
        (refine K.pl 3 (v := (.pointer (some ⟨g, H * 2, none⟩))) rfl ?_ ?_; (intro _w; go_simp; skip); simp only [Act.put, K.put3])
        (refine K.tk 4 _ rfl K.m0 (exec_load _ _ rfl g (H * 2) rfl _ _ rfl rfl infoAv) ?_; simp only [Act.put, K.put3])
        (refine K.pl 5 (v := ?_) rfl ?_ ?_; rotate_left; (intro _w; go_simp; try with_reducible rfl); simp only [Act.put, K.put3])
        (refine K.pl 6 (v := ?_) rfl ?_ ?_; rotate_left; (intro _w; go_simp; try with_reducible rfl); simp only [Act.put, K.put3])
        (refine K.pl 7 (v := (.pointer (some ⟨g, a * 2, none⟩))) rfl ?_ ?_; (intro _w; go_simp; skip); simp only [Act.put, K.put3])
        (refine K.tk 8 _ rfl K.m1 (exec_load _ _ rfl g (a * 2) rfl _ _ rfl rfl infoAv) ?_; simp only [Act.put, K.put3])
        clear hold
        refine K.on 9 [] rfl (fun K9 hK9 => ?_)
        refine wp_call _ _ _ rfl 31 [] rfl (fun vs w => by kernel_rfl) [.agg #[.string (sb q.1), .string (sb q.2)], .agg #[.string (sb x.1), .string (sb x.2)]] (by rfl) ?_
        refine (HCMP.out wr.drew).mono ?_
        rintro e w3 ⟨rfl, f3⟩
        have HF3 : Hid (Fr No w w3) := hid (HF.out.drew.trans' f3)
        refine ⟨_, rfl, hK9 _ _ (Facts.nil_hold _) ?_⟩
        clear hK9 K9 f3
        simp only [Act.put, K.put3]
        have hold : Facts.hold [] w3 := Facts.nil_hold _
        (refine K.pl 10 (v := (.bool true)) rfl ?_ ?_; (intro _w; exact exec_lssI _ _ _ _ rfl .i64 cv 0 rfl rfl _ HCL.out _w); simp only [Act.put, K.put3])
        clear hold
        refine wpD_done (by kernel_rfl) ?_ _
        go_wp2_with fail
        refine ⟨⟨t + 1, j, by have := HT.out; rw [show m + (t + 1) = H + 1 by omega]; push_cast; rfl, by rw [HT.out.2.1], by have := HT.out; omega, HT.out.2.2.2.2.2, hid ⟨fun t' q' ht' hq' => ?_, HS.out.2⟩, HF3⟩, ?_⟩
        · by_cases h : ltB q'.1 x.1 = true
          · exact h
          · exfalso
            have hle : t' ≤ t := by omega
            rcases Nat.lt_or_ge t' t with hlt | hge
            · have h1 := sd_get HSD.out hlt hq' HQ.out
              have h2 : ltB q'.1 x.1 = false := by simpa using h
              have := le_trans h2 h1
              rw [HLB.out] at this
              cases this
            · obtain rfl : t' = t := by omega
              rw [HQ.out] at hq'
              obtain rfl := Option.some.inj hq'
              exact h HLB.out
        · have := HT.out
          simp [intOf]; omega
      | false =>
        have HCL : Hid (decide (cv < 0) = false) := hid (by rw [hcl, hlb])
        have HLB := hid hlb
        clear hcl hlb
        have hold : Facts.hold [(4, fun w' => w'.rangeAt g (H * 2) [.string (sb q.1), .string (sb q.2)]), (8, fun w' => w'.rangeAt g (a * 2) [.string (sb x.1), .string (sb x.2)])] wr.drew := Facts.cons_hold hr1 (Facts.cons_hold hr2 (Facts.nil_hold _))
        refine wpD_region hold (by kernel_rfl) 11 rfl ?_
        (refine K.pl 0 (v := ?_) rfl ?_ ?_; rotate_left; (intro _w; go_simp; try with_reducible rfl); simp only [Act.put, K.put3])
        (refine K.pl 1 (v := ?_) rfl ?_ ?_; rotate_left; (intro _w; go_simp; try with_reducible rfl); simp only [Act.put, K.put3])
        (refine K.pl 2 (v := ?_) rfl ?_ ?_; rotate_left; (intro _w; go_simp; try with_reducible rfl); simp only [Act.put, K.put3])
        (refine K.pl 3 (v := (.pointer (some ⟨g, H * 2, none⟩))) rfl ?_ ?_; (intro _w; go_simp; skip); simp only [Act.put, K.put3])
        (refine K.tk 4 _ rfl K.m0 (exec_load _ _ rfl g (H * 2) rfl _ _ rfl rfl infoAv) ?_; simp only [Act.put, K.put3])
        (refine K.pl 5 (v := ?_) rfl ?_ ?_; rotate_left; (intro _w; go_simp; try with_reducible rfl); simp only [Act.put, K.put3])
        (refine K.pl 6 (v := ?_) rfl ?_ ?_; rotate_left; (intro _w; go_simp; try with_reducible rfl); simp only [Act.put, K.put3])
        (refine K.pl 7 (v := (.pointer (some ⟨g, a * 2, none⟩))) rfl ?_ ?_; (intro _w; go_simp; skip); simp only [Act.put, K.put3])
        (refine K.tk 8 _ rfl K.m1 (exec_load _ _ rfl g (a * 2) rfl _ _ rfl rfl infoAv) ?_; simp only [Act.put, K.put3])
        clear hold
        refine K.on 9 [] rfl (fun K9 hK9 => ?_)
        refine wp_call _ _ _ rfl 31 [] rfl (fun vs w => by kernel_rfl) [.agg #[.string (sb q.1), .string (sb q.2)], .agg #[.string (sb x.1), .string (sb x.2)]] (by rfl) ?_
        refine (HCMP.out wr.drew).mono ?_
        rintro e w3 ⟨rfl, f3⟩
        have HF3 : Hid (Fr No w w3) := hid (HF.out.drew.trans' f3)
        refine ⟨_, rfl, hK9 _ _ (Facts.nil_hold _) ?_⟩
        clear hK9 K9 f3
        simp only [Act.put, K.put3]
        have hold : Facts.hold [] w3 := Facts.nil_hold _
        (refine K.pl 10 (v := (.bool false)) rfl ?_ ?_; (intro _w; exact exec_lssI _ _ _ _ rfl .i64 cv 0 rfl rfl _ HCL.out _w); simp only [Act.put, K.put3])
        clear hold
        refine wpD_done (by kernel_rfl) ?_ _
        go_wp2_with fail
        refine ⟨⟨i, t, by rw [HT.out.1], by rw [HT.out.2.2.1], HT.out.2.2.2.1, by have := HT.out; omega, hid ⟨HS.out.1, fun t' q' ht' hq' => ?_⟩, HF3⟩, ?_⟩
        · rcases Nat.lt_or_ge t t' with hlt | hge
          · have h1 := sd_get HSD.out hlt HQ.out hq'
            exact le_trans HLB.out h1
          · obtain rfl : t' = t := by omega
            rw [HQ.out] at hq'
            obtain rfl := Option.some.inj hq'
            exact HLB.out
        · have := HT.out
          simp [intOf]; omega
    · have hii : i = j := by omega
      subst hii
      have hsr : srt (x :: Q) = Q.take i ++ x :: Q.drop i := by
        have h := srt_one_left (x := x) (Q1 := Q.take i) (Q2 := Q.drop i) (fun q hq => by
          obtain ⟨t, ht, rfl⟩ := List.mem_iff_getElem.1 hq
          rw [List.length_take] at ht
          exact HS.out.1 t _ (by omega) (by rw [List.getElem_take, List.getElem?_eq_getElem (by omega)]))
          (fun q hq => by
          obtain ⟨t, ht, rfl⟩ := List.mem_iff_getElem.1 hq
          rw [List.length_drop] at ht
          exact HS.out.2 (i + t) _ (by omega) (by rw [List.getElem_drop, List.getElem?_eq_getElem (by omega)]))
          (by rw [List.take_append_drop]; exact HSD.out)
        rwa [List.take_append_drop] at h
      have HSR := hid hsr
      have hI1 : (I : Int) - 1 = ((a + i : Nat) : Int) := by have := HM.out; omega
      have HII := hid (show m + i = I ∧ i ≤ n from ⟨hI, hj⟩)
      obtain ⟨E1, hE1⟩ : ∃ E1, a + i = E1 := ⟨_, rfl⟩
      rw [hE1] at hI1
      have HE := hid hE1
      obtain rfl : I = J := by omega
      have ha0 : (0 : Int) ≤ a := by omega
      have hIb : (I : Int) ≤ 1048576 := by have := HM.out; have := HII.out; omega
      have hI0 : (1 : Int) ≤ I := by have := HM.out; have := HII.out; omega
      clear hsr hI hJ hij hj hlt hE1 HS
      go_wp2_with fail
      obtain ⟨W0, hW0⟩ : ∃ W0, wr = W0 := ⟨_, rfl⟩
      rw [hW0] at HF ⊢
      clear hW0
      go_loopw [13] (fun kv wr2 => ∃ (t : Nat), kv = .int .i64 ((a + t : Nat) : Int) ∧ t ≤ i ∧ Hid (Blk wr2 g 37 (avs ((A ++ Q.take t) ++ x :: (Q.drop t ++ C)) ++ z) ∧ Fr (fun k => k = g) w wr2)) (fun kv _ => E1 - (intOf kv).toNat)
      case atStart => exact ⟨0, by simp, Nat.zero_le _, hid ⟨by have h := HB0.out.fr HF.out id; simpa using h, HF.out.no⟩⟩
      case round =>
        obtain ⟨t, rfl, ht, HJ⟩ := hrel
        obtain ⟨k, hk⟩ : ∃ k, a + t = k := ⟨_, rfl⟩
        rw [hk]
        by_cases hlt : t < i
        · have hlti : (k : Int) < E1 := by have := HE.out; omega
          obtain ⟨q, hq⟩ : ∃ q, Q[t]? = some q := ⟨_, List.getElem?_eq_getElem (by have := HLN.out; have := HII.out; omega)⟩
          have hdq : Q.drop t = q :: Q.drop (t + 1) := by
            obtain ⟨h1, rfl⟩ := List.getElem?_eq_some_iff.1 hq
            exact List.drop_eq_getElem_cons h1
          have htq : Q.take (t + 1) = Q.take t ++ [q] := by rw [List.take_add_one, hq]; rfl
          obtain ⟨P, hP⟩ : ∃ P, A ++ Q.take t = P := ⟨_, rfl⟩
          obtain ⟨D, hD⟩ : ∃ D, Q.drop (t + 1) ++ C = D := ⟨_, rfl⟩
          have hPl : P.length = k := by rw [← hP]; have := HLN.out; have := HII.out; simp; omega
          have HTH : Hid ((A ++ Q.take (t + 1)) ++ x :: (Q.drop (t + 1) ++ C) = P ++ q :: (x :: D)) := hid (by rw [htq, ← hP, ← hD]; simp)
          rw [hdq, List.cons_append, hP, hD] at HJ
          have hr1 : wr.rangeAt g (k * 2) [.string (sb x.1), .string (sb x.2)] := by have := avs_range HJ.out.1; rwa [hPl] at this
          have hr2 : wr.rangeAt g ((k + 1) * 2) [.string (sb q.1), .string (sb q.2)] := by
            have h : Blk wr g 37 (avs ((P ++ [x]) ++ q :: D) ++ z) := by have h := HJ.out.1; simpa using h
            have := avs_range h
            rwa [show (P ++ [x]).length = k + 1 by simp [hPl]] at this
          have HP := hid (show P.length = k ∧ t < i ∧ a + t = k from ⟨hPl, hlt, hk⟩)
          have hk0 : (0 : Int) ≤ k := by omega
          have hkN : (k : Int) < N := by have := HLN.out; have := HM.out; have := HII.out; have := HE.out; omega
          have hk1 : (0 : Int) ≤ (k : Int) + 1 := by omega
          have hk1N : (k : Int) + 1 < N := by have := HLN.out; have := HM.out; have := HII.out; have := HE.out; omega
          have hk1e : (k : Int) + 1 = ((k + 1 : Nat) : Int) := by push_cast; rfl
          obtain ⟨k1, hkk⟩ : ∃ k1, k + 1 = k1 := ⟨_, rfl⟩
          rw [hkk] at hr2 hk1e
          have HKK := hid hkk
          have hk10 : (0 : Int) ≤ k1 := by omega
          have hk1N' : (k1 : Int) < N := by omega
          have hkb : (k : Int) ≤ 1048576 := by omega
          clear hq hdq htq hP hD hPl hlt ht hk hkk hk1 hk1N
          go_wp2_with fail
          have hold : Facts.hold [(9, fun w' => w'.rangeAt g (k1 * 2) [.string (sb q.1), .string (sb q.2)]), (13, fun w' => w'.rangeAt g (k * 2) [.string (sb x.1), .string (sb x.2)])] wr.drew := Facts.cons_hold hr2 (Facts.cons_hold hr1 (Facts.nil_hold _))
          refine wpD_region hold (by kernel_rfl) 18 rfl ?_
          (refine K.pl 0 (v := ?_) rfl ?_ ?_; rotate_left; (intro _w; go_simp; try with_reducible rfl); simp only [Act.put, K.put3])
          (refine K.pl 1 (v := ?_) rfl ?_ ?_; rotate_left; (intro _w; go_simp; try with_reducible rfl); simp only [Act.put, K.put3])
          (refine K.pl 2 (v := ?_) rfl ?_ ?_; rotate_left; (intro _w; go_simp; try with_reducible rfl); simp only [Act.put, K.put3])
          (refine K.pl 3 (v := ?_) rfl ?_ ?_; rotate_left; (intro _w; go_simp; try with_reducible rfl); simp only [Act.put, K.put3])
          (refine K.pl 4 (v := (.int .i64 (k1 : Int))) rfl ?_ ?_; (intro _w; exact exec_addI _ _ _ _ rfl (k : Int) 1 rfl rfl _ (by rw [IntKind.wrap_i64] <;> omega) _w); simp only [Act.put, K.put3])
          (refine K.pl 5 (v := ?_) rfl ?_ ?_; rotate_left; (intro _w; go_simp; try with_reducible rfl); simp only [Act.put, K.put3])
          (refine K.pl 6 (v := ?_) rfl ?_ ?_; rotate_left; (intro _w; go_simp; try with_reducible rfl); simp only [Act.put, K.put3])
          (refine K.pl 7 (v := (.int .i64 (k1 : Int))) rfl ?_ ?_; (intro _w; exact exec_addI _ _ _ _ rfl (k : Int) 1 rfl rfl _ (by rw [IntKind.wrap_i64] <;> omega) _w); simp only [Act.put, K.put3])
          (refine K.pl 8 (v := (.pointer (some ⟨g, k1 * 2, none⟩))) rfl ?_ ?_; (intro _w; go_simp; skip); simp only [Act.put, K.put3])
          (refine K.tk 9 _ rfl K.m0 (exec_load _ _ rfl g (k1 * 2) rfl _ _ rfl rfl infoAv) ?_; simp only [Act.put, K.put3])
          (refine K.pl 10 (v := ?_) rfl ?_ ?_; rotate_left; (intro _w; go_simp; try with_reducible rfl); simp only [Act.put, K.put3])
          (refine K.pl 11 (v := ?_) rfl ?_ ?_; rotate_left; (intro _w; go_simp; try with_reducible rfl); simp only [Act.put, K.put3])
          (refine K.pl 12 (v := (.pointer (some ⟨g, k * 2, none⟩))) rfl ?_ ?_; (intro _w; go_simp; skip); simp only [Act.put, K.put3])
          (refine K.tk 13 _ rfl K.m1 (exec_load _ _ rfl g (k * 2) rfl _ _ rfl rfl infoAv) ?_; simp only [Act.put, K.put3])
          (refine K.pl 14 (v := (.pointer (some ⟨g, k * 2, none⟩))) rfl ?_ ?_; (intro _w; go_simp; skip); simp only [Act.put, K.put3])
          clear hold
          have HLB2 := hid (show (avs (P ++ x :: (q :: D)) ++ z).length = (P.length + 2 + D.length) * 2 + z.length by rw [List.length_append, avs_len]; simp; omega)
          refine K.on 15 [] rfl (fun K15 hK15 => ?_)
          refine wp_storeV _ _ _ rfl g (k * 2) (.agg #[.string (sb q.1), .string (sb q.2)]) [.string (sb q.1), .string (sb q.2)] rfl rfl rfl 37 _ (show Blk wr.drew g _ _ from HJ.out.1) (by rw [HLB2.out]; have := HP.out; simp; omega) infoAv (by simp [Value.oneCell']) ?_
          intro w5 HB5 HF5 HS5
          refine hK15 _ _ (Facts.nil_hold _) ?_
          clear hK15 K15
          simp only [Act.put, K.put3]
          have hB5 : Blk w5 g 37 (avs ((P ++ [q]) ++ q :: D) ++ z) := by
            have h := HB5.out
            rw [← HP.out.1, put_cells] at h
            simpa using h
          have HC5 := hid hB5
          clear hB5
          have hold : Facts.hold [] w5 := Facts.nil_hold _
          (refine K.pl 16 (v := (.pointer (some ⟨g, k1 * 2, none⟩))) rfl ?_ ?_; (intro _w; go_simp; skip); simp only [Act.put, K.put3])
          clear hold
          refine K.on 17 [] rfl (fun K17 hK17 => ?_)
          refine wp_storeV _ _ _ rfl g (k1 * 2) (.agg #[.string (sb x.1), .string (sb x.2)]) [.string (sb x.1), .string (sb x.2)] rfl rfl rfl 37 _ HC5.out (by rw [List.length_append, avs_len]; have := HP.out; have := HKK.out; simp; omega) infoAv (by simp [Value.oneCell']) ?_
          intro w6 HB6 HF6 HS6
          refine hK17 _ _ (Facts.nil_hold _) ?_
          clear hK17 K17
          simp only [Act.put, K.put3]
          refine wpD_done (by kernel_rfl) ?_ _
          go_wp2_with fail
          refine ⟨⟨t + 1, by have := HP.out; have := HKK.out; rw [show a + (t + 1) = k1 by omega], HP.out.2.1, hid ⟨?_, HJ.out.2.trans' ((Fr.refl (fun k => k = g) wr).drew.trans' (HF5.out.trans' HF6.out))⟩⟩, ?_⟩
          · have h := HB6.out
            rw [show k1 = (P ++ [q]).length by have := HP.out; have := HKK.out; simp; omega, put_cells] at h
            rw [HTH.out]
            simpa using h
          · have := HP.out; have := HE.out
            simp [intOf]; omega
        · obtain rfl : t = i := by omega
          have hge : ¬ (k : Int) < E1 := by have := HE.out; omega
          clear hlt ht hk
          go_wp2_with fail
          refine bodyPost_ret (results_none rfl _ _ _) rfl ?_
          refine ⟨⟨_, rfl⟩, ?_, HJ.out.2⟩
          rw [HSR.out]
          have h := HJ.out.1
          simpa using h
end Go.Proofs.YtnjemnmhkhkpeaaDoor.DN
