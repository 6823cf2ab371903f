/-
  The program's isWrong and isBuilt: whether a name may be but for the length of its text.
-/
import Derived.Test.YthjmkfpdbbfcpaaGreatDoorDnT
set_option linter.unusedVariables false
set_option linter.unusedSimpArgs false
namespace Go.Proofs.YthjmkfpdbbfcpaaGreatDoor.DN
set_option maxRecDepth 100000
open Go.RowKit K Go.Proofs.YthjmkfpdbbfcpaaGreatDoor.BE

theorem low_dec (p q : B) : decide (low p = low q) = (low p == low q) := by
  rw [Bool.eq_iff_iff]
  simp
set_option maxHeartbeats 4000000 in
theorem again_any (t u t0 u0 : B) (b : Nat) (w : World) (hb : Blk w b 35 [.string (sb t0), .string (sb u0)]) (h1 : Sz t) (h2 : Sz t0) :
    Calls Tryz.prog 51 #[.agg #[.string (sb t), .string (sb u)], .pointer (some ⟨b, 0, none⟩)] w fun e w' => e = .returned (.bool (low t == low t0)) ∧ Fr No w w' := by
  rw [← low_dec]
  have HB := hid hb; have H1 := hid h1; have H2 := hid h2
  clear hb h1 h2
  go_enter Tryz.func51, Tryz.ntmps51
  go_wp2_with (first
    | ((with_reducible refine K.atO (.box 35 _) ?_); refine wpL_box rfl _ _ rfl _ rfl [.string (sb t), .string (sb u)] rfl ?_; intro w1 HB1 HF1 HS1)
    | fail)
  obtain ⟨g, hg⟩ : ∃ g, w.heap.size = g := ⟨_, rfl⟩
  rw [hg] at HB1 ⊢
  have c0 : w1.cell? ⟨g, 0, none⟩ = some (.string (sb t)) := HB1.out.cell 0
  have c1 : w1.cell? ⟨b, 0, none⟩ = some (.string (sb t0)) := (HB.out.fr HF1.out id).cell 0
  have hold : Facts.hold [(1, fun w' => w'.cell? ⟨g, 0, none⟩ = some (.string (sb t))), (4, fun w' => w'.cell? ⟨b, 0, none⟩ = some (.string (sb t0)))] w1.drew := Facts.cons_hold c0 (Facts.cons_hold c1 (Facts.nil_hold _))
  refine wpD_region hold (by kernel_rfl) 8 rfl ?_
  (refine wpD_plain 0 (v := ?_) rfl (by kernel_rfl) (by kernel_rfl) (by kernel_rfl) (fun _ _ _ h => h) (by rfl) ?_ (by assumption) ?_; rotate_left; (intro _w; go_simp; try with_reducible rfl); simp only [Act.put, K.put3])
  (refine wpD_plain 3 (v := ?_) rfl (by kernel_rfl) (by kernel_rfl) (by kernel_rfl) (fun _ _ _ h => h) (by rfl) ?_ (by assumption) ?_; rotate_left; (intro _w; go_simp; try with_reducible rfl); simp only [Act.put, K.put3])
  (refine wpD_take 1 _ rfl (by kernel_rfl) (by kernel_rfl) (by kernel_rfl) (fun _ _ _ h => h) List.mem_cons_self (by rfl) (v := ?_) ?_ (by assumption) ?_; rotate_left; (intro _w _hw; go_simp; try with_reducible rfl); simp only [Act.put, K.put3])
  (refine wpD_take 4 _ rfl (by kernel_rfl) (by kernel_rfl) (by kernel_rfl) (fun _ _ _ h => h) (List.mem_cons_of_mem _ List.mem_cons_self) (by rfl) (v := ?_) ?_ (by assumption) ?_; rotate_left; (intro _w _hw; go_simp; try with_reducible rfl); simp only [Act.put, K.put3])
  clear hold
  refine wpD_only 2 [(4, fun w' => w'.cell? ⟨b, 0, none⟩ = some (.string (sb t0)))] rfl (by kernel_rfl) (by kernel_rfl) (by rfl) (fun K2 hK2 => ?_)
  refine wp_call _ _ _ rfl 25 [] rfl (fun vs w => by kernel_rfl) [.string (sb t)] (by rfl) ?_
  refine (lower_str t H1.out w1.drew).mono ?_
  rintro e w2 ⟨rfl, f2⟩
  have c12 : w2.cell? ⟨b, 0, none⟩ = some (.string (sb t0)) := f2.cell (show w1.drew.cell? _ = _ from c1) id
  have HF2 := hid (HF1.out.trans' ((Fr.refl No w1).drew.trans' f2))
  refine ⟨_, rfl, hK2 _ _ (Facts.cons_hold c12 (Facts.nil_hold _)) ?_⟩
  clear hK2 K2 f2
  simp only [Act.put, K.put3]
  refine wpD_only 5 [] rfl (by kernel_rfl) (by kernel_rfl) (by rfl) (fun K5 hK5 => ?_)
  refine wp_call _ _ _ rfl 25 [] rfl (fun vs w => by kernel_rfl) [.string (sb t0)] (by rfl) ?_
  refine (lower_str t0 H2.out w2).mono ?_
  rintro e w3 ⟨rfl, f3⟩
  have HF3 := hid (HF2.out.trans' f3)
  refine ⟨_, rfl, hK5 _ _ (Facts.nil_hold _) ?_⟩
  clear hK5 K5 f3
  simp only [Act.put, K.put3]
  have hold : Facts.hold [] w3 := Facts.nil_hold _
  (refine wpD_plain 6 (v := (.bool (decide (low t = low t0)))) rfl (by kernel_rfl) (by kernel_rfl) (by kernel_rfl) (fun _ _ _ h => h) (by rfl) ?_ (by assumption) ?_; (intro _w; exact exec_eqS _ _ _ rfl _ _ rfl rfl _w); simp only [Act.put, K.put3])
  (refine wpD_plain 7 (v := ?_) rfl (by kernel_rfl) (by kernel_rfl) (by kernel_rfl) (fun _ _ _ h => h) (by rfl) ?_ (by assumption) ?_; rotate_left; (intro _w; go_simp; try with_reducible rfl); simp only [Act.put, K.put3])
  clear hold
  refine wpD_done (by kernel_rfl) ?_ _
  go_wp2_with fail
  go_ret
  exact ⟨rfl, HF3.out⟩
theorem Sl.take {α : Type} {k : Nat} {p : α → List Value → Prop} {S : Nat → Prop} {w : World} {a : Option Addr} {len cap : Nat} {xs : List α} (h : Sl k p S w (.slice a len cap) xs) (i : Nat) (hi : i ≤ len) : Sl k p S w (.slice a i cap) (xs.take i) := by
  obtain ⟨a, c, h1, h2, h3, h4⟩ := h
  simp only [Value.slice.injEq] at h1
  obtain ⟨rfl, rfl, rfl⟩ := h1
  have hl : (xs.take i).length = i := by rw [List.length_take]; omega
  refine ⟨_, _, by rw [hl], by rw [hl]; omega, by rw [hl]; omega, ?_⟩
  by_cases h0 : xs.take i = []
  · exact .inl h0
  · right
    have hne : xs ≠ [] := fun e => h0 (by rw [e]; simp)
    obtain ⟨g, o, L, e, hS, hg, hr, hL, hc, hp⟩ := h4.resolve_left hne
    refine ⟨g, o, L.take i, e, hS, hg, ?_, by rw [List.length_take, hL, hl]; omega, fun c hcm => hc c (List.mem_of_mem_take hcm), fun j x c hx hcj => ?_⟩
    · intro j u hj
      refine hr j u ?_
      have hs : L.flatten = (L.take i).flatten ++ (L.drop i).flatten := by rw [← List.flatten_append, List.take_append_drop]
      rw [hs, List.getElem?_append_left (List.getElem?_eq_some_iff.1 hj).1]
      exact hj
    · have hji : j < i := by have := (List.getElem?_eq_some_iff.1 hx).1; omega
      rw [List.getElem?_take, if_pos hji] at hx hcj
      exact hp j x c hx hcj
set_option maxHeartbeats 4000000 in
theorem isWrong_any (E : Nat → Prop) (v : Value) (r : Rd) (w : World) (h : RdIn E w v r) : Calls Tryz.prog 36 #[v] w fun e w' => e = .returned (.bool (!okStep r)) ∧ Fr No w w' := by
  obtain ⟨a, cp, rfl, hcp, hl0⟩ := h.form
  have HX := hid h
  obtain ⟨n, hn⟩ : ∃ n, r.length = n := ⟨_, rfl⟩
  obtain ⟨R, hR⟩ : ∃ R, (!okStep r) = R := ⟨_, rfl⟩
  rw [hR]
  rw [hn] at HX hl0 hcp ⊢
  have HNN := hid hn
  by_cases h0 : n = 0 ∨ 4 < n
  · have hRt : R = true := by
      rw [← hR]
      unfold okStep
      rcases h0 with h0 | h0
      · rw [decide_eq_false (show ¬ 1 ≤ r.length by omega)]; rfl
      · rw [decide_eq_false (show ¬ r.length ≤ 4 by omega)]; simp
    subst hRt
    rcases h0 with rfl | h0
    · clear hR hn h
      go_enter Tryz.func36, Tryz.ntmps36
      go_wp2
      go_ret
      exact ⟨rfl, Fr.refl _ _⟩
    · have h1 : (4 : Int) < n := by omega
      have h2 : ¬ (n : Int) = 0 := by omega
      clear hR hn h h0
      go_enter Tryz.func36, Tryz.ntmps36
      go_wp2
      go_ret
      exact ⟨rfl, Fr.refl _ _⟩
  · have hRt : (!typs [] r) = R := by
      rw [← hR]
      unfold okStep
      rw [decide_eq_true (show 1 ≤ r.length by omega), decide_eq_true (show r.length ≤ 4 by omega)]
      rfl
    have HRT : Hid ((!typs (r.take 0) (r.drop 0)) = R) := hid hRt
    have h1 : ¬ (4 : Int) < n := by omega
    have h2 : ¬ (n : Int) = 0 := by omega
    have h4 : (n : Int) ≤ 4 := by omega
    have hcpi : (n : Int) ≤ cp := by omega
    clear hR hRt hn h h0
    go_enter Tryz.func36, Tryz.ntmps36
    go_wp2_with fail
    go_loopw [16] (fun iv wr => ∃ (i : Nat), iv = .int .i64 i ∧ i ≤ n ∧ Hid (Fr No w wr) ∧ Hid ((!typs (r.take i) (r.drop i)) = R)) (fun iv _ => n - (intOf iv).toNat)
    case atStart => exact ⟨0, rfl, Nat.zero_le _, hid (Fr.refl _ _), HRT⟩
    case round =>
      obtain ⟨i, rfl, hi, HF, HT⟩ := hrel
      by_cases hlt : i < n
      · obtain ⟨x, hx⟩ : ∃ x, r[i]? = some x := ⟨_, List.getElem?_eq_getElem (by rw [HNN.out]; exact hlt)⟩
        have hlti : (i : Int) < n := by omega
        have hi0 : (0 : Int) ≤ i := by omega
        have hicp : (i : Int) ≤ cp := by omega
        obtain ⟨g, o, cq, c, e1, -, hgw, hrr, hc, hxa⟩ := (RdIn.no HX.out HF.out).get hx
        rw [HNN.out] at e1
        simp only [Value.slice.injEq, true_and] at e1
        obtain ⟨rfl, rfl⟩ := e1
        obtain ⟨rfl, hs1, hs2⟩ := hxa
        have HRR := hid hrr; have HS1 := hid hs1
        have hdrop : r.drop i = x :: r.drop (i + 1) := by
          have hl : i < r.length := by rw [HNN.out]; exact hlt
          rw [List.drop_eq_getElem_cons hl]
          rw [List.getElem?_eq_getElem hl] at hx
          rw [Option.some.inj hx]
        have htake : r.take (i + 1) = r.take i ++ [x] := by rw [List.take_add_one, hx]; rfl
        have HT2 : Hid ((!(typ x.1 && !dup (r.take i) x.1 && typs (r.take (i + 1)) (r.drop (i + 1)))) = R) := hid (by
          have h := HT.out
          rw [hdrop] at h
          rw [htake]
          exact h)
        have HLT := hid hlt
        have HSUB : Hid (∀ w', Fr No w w' → Sl 2 AvC E w' (.slice (some ⟨g, o, none⟩) i cp) (r.take i)) := hid (fun w' hf => Sl.take (RdIn.no HX.out hf) i (Nat.le_of_lt HLT.out))
        clear hc hgw hrr hs1 hs2 hx hdrop htake HT hi hlt
        go_wp2_with (first
          | ((with_reducible refine K.atO (.load 35 _) ?_); refine wpL_load rfl _ _ rfl g (o + i * 2) rfl [.string (sb x.1), .string (sb x.2)] _ HRR.out rfl rfl infoAv ?_)
          | ((with_reducible refine K.atO (.alloc 35) ?_); refine wpList_plain rfl fun K1 hK1 => ?_; refine wp_alloc 35 rfl (.agg #[.string ⟨#[]⟩, .string ⟨#[]⟩]) (fun _ => by kernel_rfl) [.string ⟨#[]⟩, .string ⟨#[]⟩] rfl ?_; intro w2 HB2 HF2 HS2; refine hK1 _ _ ?_; clear hK1 K1)
          | ((with_reducible refine K.atO (.store 35 _ _) ?_); refine wpL_store rfl _ _ _ rfl wr.heap.size 0 [.string (sb x.1), .string (sb x.2)] rfl rfl 35 _ HB2.out (by simp) infoAv (by simp [Value.oneCell']) ?_; intro w3 HB3 HF3 HS3;
              (have hcell3 : w3.cell? ⟨wr.heap.size, 0, none⟩ = some (.string (sb x.1)) := HB3.out.cell 0))
          | fail)
        have HFR3 : Hid (Fr No wr w3) := hid (HF2.out.trans HF3.out fun k e => .inr (by have e : k = wr.heap.size := e; omega))
        have HBK : Hid (Blk w3 wr.heap.size 35 [.string (sb x.1), .string (sb x.2)]) := hid (by simpa [spl] using HB3.out)
        refine (type_any x.1 w3).mono ?_
        rintro e w4 ⟨rfl, f4⟩
        have HFR4 := hid (HF.out.trans' (HFR3.out.trans' f4))
        have HBK4 := hid (HBK.out.fr f4 id)
        clear f4 hcell3
        cases ht : typ x.1 with
        | false =>
          have hRf : R = true := by have h := HT2.out; rw [ht] at h; exact h.symm
          subst hRf
          clear ht
          go_wp2_with fail
          go_ret
          exact ⟨rfl, HFR4.out⟩
        | true =>
          obtain ⟨b, hb⟩ : ∃ b, wr.heap.size = b := ⟨_, rfl⟩
          rw [hb] at HBK4 ⊢
          have HC := hid (containsAv (α := Av) 51 [.pointer (some ⟨b, 0, none⟩)] (fun a => low a.1 == low x.1) (fun w' a c => AvC a c ∧ Blk w' b 35 [.string (sb x.1), .string (sb x.2)]) E (.slice (some ⟨g, o, none⟩) i cp) (r.take i) w4
            (fun w w' a c h hf => ⟨h.1, h.2.fr hf id⟩) (Sl.fr (HSUB.out w4 HFR4.out) (Fr.refl No w4) (fun _ _ _ e => e) (fun a c _ h => ⟨h, HBK4.out⟩)) (fun _ _ => by kernel_rfl)
            (fun a _ c wv hp _ => by
              obtain ⟨⟨rfl, hz1, -⟩, hbk⟩ := hp
              exact again_any a.1 a.2 x.1 x.2 b wv hbk hz1 HS1.out))
          clear hb
          go_wp2_with fail
          refine HC.out.mono ?_
          rintro e w5 ⟨rfl, f5⟩
          have HFR5 := hid (HFR4.out.trans' f5)
          clear f5
          cases hd : dup (r.take i) x.1 with
          | true =>
            have hRf : R = true := by have h := HT2.out; rw [ht, hd] at h; exact h.symm
            subst hRf
            have hd2 : ((r.take i).any fun a => low a.1 == low x.1) = true := hd
            rw [hd2]
            clear ht hd hd2
            go_wp2_with fail
            go_ret
            exact ⟨rfl, HFR5.out⟩
          | false =>
            have HT3 : Hid ((!typs (r.take (i + 1)) (r.drop (i + 1))) = R) := hid (by have h := HT2.out; rw [ht, hd] at h; exact h)
            have hd2 : ((r.take i).any fun a => low a.1 == low x.1) = false := hd
            rw [hd2]
            clear ht hd hd2
            go_wp2_with fail
            refine ⟨⟨i + 1, by go_num, HLT.out, HFR5, HT3⟩, ?_⟩
            have := HLT.out
            simp [intOf]; omega
      · obtain rfl : i = n := by omega
        have hRf : R = false := by
          have h := HT.out
          rw [← HNN.out, List.drop_length] at h
          exact h.symm
        subst hRf
        go_wp2_with fail
        go_ret
        exact ⟨rfl, HF.out⟩
theorem isBuilt_any (E : Nat → Prop) (v : Value) (n : Nm) (w : World) (h : NmIn E w v n) : Calls Tryz.prog 15 #[v] w fun e w' => e = .returned (.bool (built n)) ∧ Fr No w w' := by
  have HC := hid (containsRd (α := Rd) 36 [] (fun r => !okStep r) (fun w' r v => RdIn E w' v r) E v n w (fun w w' r v h hf => h.no hf) h (fun _ _ => by kernel_rfl)
    (fun r _ v wv hp _ => isWrong_any E v r wv hp))
  have hany : (n.any fun r => !okStep r) = !n.all okStep := by
    rw [List.all_eq_not_any_not]
    simp
  rw [hany] at HC
  obtain ⟨a, cp, rfl, -, hl0⟩ := h.form
  obtain ⟨m, hm⟩ : ∃ m, n.length = m := ⟨_, rfl⟩
  unfold built
  rw [hm] at HC ⊢
  clear h hany hm
  by_cases h16 : m ≤ 16
  · rw [decide_eq_true h16]
    have h1 : (m : Int) ≤ 16 := by omega
    clear h16
    go_enter Tryz.func15, Tryz.ntmps15
    go_wp2_with fail
    refine HC.out.mono ?_
    rintro e w1 ⟨rfl, f1⟩
    have HF := hid f1
    clear f1
    cases hq : n.all okStep with
    | true =>
      have HQ := hid hq
      clear hq
      go_wp2_with fail
      go_ret
      exact ⟨by rw [HQ.out]; rfl, HF.out⟩
    | false =>
      have HQ := hid hq
      clear hq
      go_wp2_with fail
      go_ret
      exact ⟨by rw [HQ.out]; rfl, HF.out⟩
  · rw [decide_eq_false h16]
    have h1 : ¬ (m : Int) ≤ 16 := by omega
    clear h16 HC
    go_enter Tryz.func15, Tryz.ntmps15
    go_wp2
    go_ret
    exact ⟨rfl, Fr.refl _ _⟩
end Go.Proofs.YthjmkfpdbbfcpaaGreatDoor.DN
