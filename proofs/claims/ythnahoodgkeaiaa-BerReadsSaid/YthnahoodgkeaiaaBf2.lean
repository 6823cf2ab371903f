/-
  The document's words on elements: shaped, few.
-/
import Derived.Test.YthnahoodgkeaiaaBf1
set_option linter.unusedVariables false
set_option linter.unusedSimpArgs false
namespace Go.Proofs.Ythnahoodgkeaiaa.BE
set_option maxRecDepth 100000
open Go.RowKit K

theorem shaped_eq (m : Nat) (n : Nd) : shaped (m + 1) n = (tagB n.tag && (if conB n.tag then n.body.isEmpty else n.kids.isEmpty) && n.kids.all (shaped m)) := rfl
/-- What shaped's kids-test tells of a tag that is one. -/
theorem con_of' {t : Int} (h : tagB t = true) : ((t.tdiv 32).tmod 2 == 1) = conB t := by
  simp [tagB] at h
  unfold conB
  rw [Int.tdiv_eq_ediv_of_nonneg (by omega), Int.tmod_eq_emod_of_nonneg (by omega)]
  rfl
set_option maxHeartbeats 8000000 in
theorem shaped_any : ∀ (m M N : Nat) (n : Nd) (cs : List Value) (w : World), deep m n = true → NdAt M (Lo N) w n cs → N ≤ w.heap.size → Calls Try.prog 25 #[.agg cs.toArray] w (Says (shaped m n) w) := by
  intro m
  induction m with
  | zero => intro M N n cs w h; cases h
  | succ m ih =>
    intro M N n cs w hd hn hN
    obtain ⟨a, sc, hcs, htg, hbl, hkl⟩ := hn.head
    obtain ⟨M, rfl⟩ := hn.succ
    have HN := hid hn; have HIH := hid ih; have HNN := hid hN; have HD := hid hd
    obtain ⟨tg, htge⟩ : ∃ tg, n.tag = tg := ⟨_, rfl⟩
    obtain ⟨bd, hbde⟩ : ∃ bd, n.body = bd := ⟨_, rfl⟩
    obtain ⟨kl, hkle⟩ : ∃ kl, n.kids.length = kl := ⟨_, rfl⟩
    have HK := hid hkle
    obtain ⟨A, hA⟩ : ∃ A, n.kids.all (shaped m) = A := ⟨_, rfl⟩
    have HA := hid hA
    have hs : shaped (m + 1) n = (tagB tg && (if conB tg then bd.isEmpty else decide (kl = 0)) && A) := by
      have e : n.kids.isEmpty = decide (kl = 0) := by rw [← hkle]; cases n.kids <;> simp
      rw [shaped_eq, htge, hbde, e, hA]
    rw [hs]
    rw [htge, hbde, hkle] at hcs
    rw [htge] at htg
    rw [hkle] at hkl
    subst hcs
    have hse := sb_empty bd
    clear hn ih hN hd hbl htge hbde hkle hA hs
    have hkli : (kl : Int) ≤ 140737488351232 := by omega
    cases ht : tagB tg with
    | false =>
      have HT := hid ht
      clear ht
      go_enter Try.func25, Try.ntmps25
      go_wp2_with (first
        | ((with_reducible show wpList _ _ _ (⟨_, .box 24 _, _, _, _, _⟩ :: _) _ _); refine wpL_box rfl _ _ rfl _ rfl [.int .i64 tg, .string (sb bd), .slice a kl sc] rfl ?_; intro w1 HB1 F1 HS1; have c0 : w1.cell? ⟨w.heap.size, 0, none⟩ = some (.int .i64 tg) := HB1.out.cell 0))
      refine (tag_any tg w1).mono ?_
      rintro e w2 ⟨rfl, rfl⟩
      rw [HT.out]
      go_wp2_with fail
      all_goals (go_ret; exact ⟨rfl, F1.out⟩)
    | true =>
      have HT := hid ht
      have hcq := con_of' ht
      clear ht
      cases hc : conB tg with
      | true =>
        have hcq1 : ((tg.tdiv 32).tmod 2 == 1) = true := by rw [hcq, hc]
        have HC := hid hc
        clear hcq hc
        cases he : bd.isEmpty with
        | true =>
            have hse1 : (sb bd).toList.isEmpty = true := by rw [hse, he]
            have HE := hid he
            clear hse he
            go_enter Try.func25, Try.ntmps25
            go_wp2_with (first
              | ((with_reducible show wpList _ _ _ (⟨_, .box 24 _, _, _, _, _⟩ :: _) _ _); refine wpL_box rfl _ _ rfl _ rfl [.int .i64 tg, .string (sb bd), .slice a kl sc] rfl ?_; intro w1 HB1 F1 HS1; have c0 : w1.cell? ⟨w.heap.size, 0, none⟩ = some (.int .i64 tg) := HB1.out.cell 0; have c1 : w1.cell? ⟨w.heap.size, 1, none⟩ = some (.string (sb bd)) := HB1.out.cell 1; have c2 : w1.cell? ⟨w.heap.size, 2, none⟩ = some (.slice a kl sc) := HB1.out.cell 2))
            refine (tag_any tg w1).mono ?_
            rintro e w2 ⟨rfl, rfl⟩
            rw [HT.out]
            go_wp2_with fail
            go_loopw [5] (fun iv wr => ∃ k : Nat, iv = .int .i64 k ∧ k ≤ kl ∧ Hid ((n.kids.take k).all (shaped m) = true) ∧ Hid (Fr No w2 wr)) (fun iv _ => kl - (intOf iv).toNat)
            case atStart => exact ⟨0, rfl, Nat.zero_le _, hid rfl, hid (Fr.refl _ _)⟩
            case round =>
              obtain ⟨k, rfl, hk, HALL, HF⟩ := hrel
              have HBr := hid (HB1.out.fr HF.out id)
              have c2 : wr.cell? ⟨w.heap.size, 2, none⟩ = some (.slice a kl sc) := HBr.out.cell 2
              by_cases hlt : k < kl
              · have hlti : (k : Int) < kl := by omega
                obtain ⟨x, hx⟩ : ∃ x, n.kids[k]? = some x := ⟨_, List.getElem?_eq_getElem (by rw [HK.out]; exact hlt)⟩
                obtain ⟨g, o, cp, c, he, hr, hcl, hxa⟩ := (HN.out.no (F1.out.trans' HF.out)).kid hx
                simp only [List.cons.injEq, Value.slice.injEq, and_true, true_and] at he
                obtain ⟨ha, -⟩ := he.2.2
                subst ha
                have HX := hid hx; have HRR := hid hr; have HCL := hid hcl; have HXA := hid hxa
                have HDX := hid (deep_kid HD.out hx)
                clear hx hr hcl hxa he
                go_wp2_with (first
                  | ((with_reducible show wpList _ _ _ (⟨_, .load 24 _, _, _, _, _⟩ :: _) _ _); refine wpL_load rfl _ _ rfl g (o + k * 3) rfl c _ HRR.out rfl rfl (by rw [HCL.out]; exact infoN) ?_))
                refine (HIH.out M N x c wr HDX.out HXA.out (Nat.le_trans HNN.out (F1.out.trans' HF.out).size)).mono ?_
                rintro e w3 ⟨rfl, f2⟩
                have HF2 := hid (HF.out.trans' f2)
                cases hdx : shaped m x with
                | true =>
                  have HA2 := hid (all_take HX.out HALL.out hdx)
                  clear f2 hdx
                  go_wp2_with fail
                  go_roundw
                  case rel => exact ⟨k + 1, by go_num, by omega, HA2, HF2⟩
                  case measure => simp [intOf]; omega
                | false =>
                  have HA2 := hid (all_not HX.out hdx)
                  clear f2 hdx
                  go_wp2_with fail
                  go_ret
                  exact ⟨by rw [← HA.out, HA2.out]; simp, F1.out.trans' HF2.out⟩
              · obtain rfl : k = kl := by omega
                go_wp2_with fail
                go_ret
                have ha := HALL.out
                rw [← HK.out, List.take_length] at ha
                refine ⟨?_, F1.out.trans' HF.out⟩
                rw [← HA.out, ha]
                rfl
        | false =>
            have hse1 : (sb bd).toList.isEmpty = false := by rw [hse, he]
            have HE := hid he
            clear hse he
            go_enter Try.func25, Try.ntmps25
            go_wp2_with (first
              | ((with_reducible show wpList _ _ _ (⟨_, .box 24 _, _, _, _, _⟩ :: _) _ _); refine wpL_box rfl _ _ rfl _ rfl [.int .i64 tg, .string (sb bd), .slice a kl sc] rfl ?_; intro w1 HB1 F1 HS1; have c0 : w1.cell? ⟨w.heap.size, 0, none⟩ = some (.int .i64 tg) := HB1.out.cell 0; have c1 : w1.cell? ⟨w.heap.size, 1, none⟩ = some (.string (sb bd)) := HB1.out.cell 1; have c2 : w1.cell? ⟨w.heap.size, 2, none⟩ = some (.slice a kl sc) := HB1.out.cell 2))
            refine (tag_any tg w1).mono ?_
            rintro e w2 ⟨rfl, rfl⟩
            rw [HT.out]
            go_wp2_with fail
            go_ret
            exact ⟨rfl, F1.out⟩
      | false =>
        have hcq1 : ((tg.tdiv 32).tmod 2 == 1) = false := by rw [hcq, hc]
        have HC := hid hc
        clear hcq hc
        by_cases hk0 : kl = 0
        · subst hk0
          have hnk : n.kids = [] := List.eq_nil_of_length_eq_zero HK.out
          have hAt : A = true := by rw [← HA.out, hnk]; rfl
          subst hAt
          clear hse hkl hkli hnk
          go_enter Try.func25, Try.ntmps25
          go_wp2_with (first
            | ((with_reducible show wpList _ _ _ (⟨_, .box 24 _, _, _, _, _⟩ :: _) _ _); refine wpL_box rfl _ _ rfl _ rfl [.int .i64 tg, .string (sb bd), .slice a 0 sc] rfl ?_; intro w1 HB1 F1 HS1; have c0 : w1.cell? ⟨w.heap.size, 0, none⟩ = some (.int .i64 tg) := HB1.out.cell 0; have c1 : w1.cell? ⟨w.heap.size, 1, none⟩ = some (.string (sb bd)) := HB1.out.cell 1; have c2 : w1.cell? ⟨w.heap.size, 2, none⟩ = some (.slice a 0 sc) := HB1.out.cell 2))
          refine (tag_any tg w1).mono ?_
          rintro e w2 ⟨rfl, rfl⟩
          rw [HT.out]
          go_wp2_with fail
          go_loopw [5] (fun iv wr => iv = .int .i64 0 ∧ wr = w2) (fun _ _ => 0)
          case atStart => exact ⟨rfl, rfl⟩
          case round =>
            obtain ⟨rfl, rfl⟩ := hrel
            go_wp2_with fail
            go_ret
            exact ⟨rfl, F1.out⟩
        · have hk1 : (0 : Int) < (kl : Int) := by omega
          have HK0 := hid hk0
          rw [decide_eq_false hk0]
          clear hk0
          go_enter Try.func25, Try.ntmps25
          go_wp2_with (first
            | ((with_reducible show wpList _ _ _ (⟨_, .box 24 _, _, _, _, _⟩ :: _) _ _); refine wpL_box rfl _ _ rfl _ rfl [.int .i64 tg, .string (sb bd), .slice a kl sc] rfl ?_; intro w1 HB1 F1 HS1; have c0 : w1.cell? ⟨w.heap.size, 0, none⟩ = some (.int .i64 tg) := HB1.out.cell 0; have c1 : w1.cell? ⟨w.heap.size, 1, none⟩ = some (.string (sb bd)) := HB1.out.cell 1; have c2 : w1.cell? ⟨w.heap.size, 2, none⟩ = some (.slice a kl sc) := HB1.out.cell 2))
          refine (tag_any tg w1).mono ?_
          rintro e w2 ⟨rfl, rfl⟩
          rw [HT.out]
          go_wp2_with fail
          go_ret
          exact ⟨rfl, F1.out⟩
end Go.Proofs.Ythnahoodgkeaiaa.BE
