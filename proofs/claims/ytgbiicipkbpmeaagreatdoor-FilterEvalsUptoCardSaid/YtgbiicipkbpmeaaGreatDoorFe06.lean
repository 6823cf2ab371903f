/-
  Part 6 of the proof: DnS, ScH, ScJ.
-/
import Derived.Test.YtgbiicipkbpmeaaGreatDoorFe05
set_option linter.unusedSimpArgs false
set_option linter.unusedVariables false
namespace Go.Proofs.YtgbiicipkbpmeaaGreatDoor.DN
set_option maxRecDepth 100000
set_option maxHeartbeats 128000000
open Go.RowKit K BE
theorem low_dec (p q : B) : decide (low p = low q) = (low p == low q) := by
 rw [Bool.eq_iff_iff]
 simp
theorem again_any (t u t0 u0 : B) (b : Nat) (w : World) (hb : Blk w b 191 [.string (sb t0), .string (sb u0)]) (h1 : Sz t) (h2 : Sz t0) :
  Calls Tryz.prog 190 #[.agg #[.string (sb t), .string (sb u)], .pointer (some ⟨b, 0, none⟩)] w fun e w' => e = .returned (.bool (low t == low t0)) ∧ Fr No w w' := by
 rw [← low_dec]
 have HB := hid hb; have H1 := hid h1; have H2 := hid h2
 clear hb h1 h2
 go_enter Tryz.func190, Tryz.ntmps190
 go_wp2_with (first
  | ((with_reducible refine K.atO (.box 191 _) ?_); refine wpL_box rfl _ _ rfl _ rfl [.string (sb t), .string (sb u)] rfl ?_; intro w1 HB1 HF1 HS1))
 obtain ⟨g, hg⟩ : ∃ g, w.heap.size = g := ⟨_, rfl⟩
 rw [hg] at HB1 ⊢
 have c0 : w1.cell? ⟨g, 0, none⟩ = some (.string (sb t)) := HB1.out.cell 0
 have c1 : w1.cell? ⟨b, 0, none⟩ = some (.string (sb t0)) := (HB.out.fr HF1.out id).cell 0
 have hold : Facts.hold [(1, fun w' => w'.cell? ⟨g, 0, none⟩ = some (.string (sb t))), (4, fun w' => w'.cell? ⟨b, 0, none⟩ = some (.string (sb t0)))] w1.drew := Facts.cons_hold c0 (Facts.cons_hold c1 (Facts.nil_hold _))
 refine wpD_region hold (by kernel_rfl) 8 rfl ?_
 (refine K.pl 0 (v := ?_) rfl ?_ ?_; rotate_left; (intro; go_simp; try with_reducible rfl); simp only [K.pu])
 (refine K.pl 3 (v := ?_) rfl ?_ ?_; rotate_left; (intro; go_simp; try with_reducible rfl); simp only [K.pu])
 (refine K.tk 1 _ rfl K.m0 (v := ?_) ?_ ?_; rotate_left; (intro _ _hw; go_simp; try with_reducible rfl); simp only [K.pu])
 (refine K.tk 4 _ rfl K.m1 (v := ?_) ?_ ?_; rotate_left; (intro _ _hw; go_simp; try with_reducible rfl); simp only [K.pu])
 clear hold
 refine K.on 2 [(4, fun w' => w'.cell? ⟨b, 0, none⟩ = some (.string (sb t0)))] rfl (fun K2 hK2 => ?_)
 refine wp_call _ _ _ rfl 112 [] rfl (fun vs w => by kernel_rfl) [.string (sb t)] (by rfl) ?_
 refine (lower_str t H1.out w1.drew).mono ?_
 rintro e w2 ⟨rfl, f2⟩
 have c12 : w2.cell? ⟨b, 0, none⟩ = some (.string (sb t0)) := f2.cell (show w1.drew.cell? _ = _ from c1) id
 have HF2 := hid (HF1.out.trans' ((Fr.refl No w1).drew.trans' f2))
 refine ⟨_, rfl, hK2 _ _ (Facts.cons_hold c12 (Facts.nil_hold _)) ?_⟩
 clear hK2 K2 f2
 simp only [K.pu]
 refine K.on 5 [] rfl (fun K5 hK5 => ?_)
 refine wp_call _ _ _ rfl 112 [] rfl (fun vs w => by kernel_rfl) [.string (sb t0)] (by rfl) ?_
 refine (lower_str t0 H2.out w2).mono ?_
 rintro e w3 ⟨rfl, f3⟩
 have HF3 := hid (HF2.out.trans' f3)
 refine ⟨_, rfl, hK5 _ _ (Facts.nil_hold _) ?_⟩
 clear hK5 K5 f3
 simp only [K.pu]
 have hold : Facts.hold [] w3 := Facts.nil_hold _
 (refine K.pl 6 (v := (.bool (decide (low t = low t0)))) rfl ?_ ?_; (intro _w; exact exec_eqS _ _ _ rfl _ _ rfl rfl _w); simp only [K.pu])
 (refine K.pl 7 (v := ?_) rfl ?_ ?_; rotate_left; (intro; go_simp; try with_reducible rfl); simp only [K.pu])
 clear hold
 refine wpD_done (by kernel_rfl) ?_ _
 go_wp2_with fail
 go_ret
 exact ⟨rfl, HF3.out⟩
theorem Sl.take {α : Type} {k : Nat} {p : α → List Value → Prop} {S : Nat → Prop} {w : World} {a : Option Addr} {len cap : Nat} {xs : List α} (h : Sl k p S w (.slice a len cap) xs) (i : Nat) (hi : i ≤ len) : Sl k p S w (.slice a i cap) (xs.take i) := by
 obtain ⟨a, c, h1, h2, h3, h4⟩ := h
 simp only [Value.slice.injEq] at h1
 obtain ⟨rfl, rfl, rfl⟩ := h1
 have hl : (xs.take i).length = i := by rw [List.length_take]; omega
 refine ⟨_, _, by rw [hl], by rw [hl]; omega, by rw [hl]; omega, ?_⟩
 by_cases h0 : xs.take i = []
 ·exact .inl h0
 ·right
  have hne : xs ≠ [] := fun e => h0 (by rw [e]; simp)
  obtain ⟨g, o, L, e, hS, hg, hr, hL, hc, hp⟩ := h4.resolve_left hne
  refine ⟨g, o, L.take i, e, hS, hg, ?_, by rw [List.length_take, hL, hl]; omega, fun c hcm => hc c (List.mem_of_mem_take hcm), fun j x c hx hcj => ?_⟩
  ·intro j u hj
   refine hr j u ?_
   have hs : L.flatten = (L.take i).flatten ++ (L.drop i).flatten := by rw [← List.flatten_append, List.take_append_drop]
   rw [hs, List.getElem?_append_left (List.getElem?_eq_some_iff.1 hj).1]
   exact hj
  ·have hji : j < i := by have := (List.getElem?_eq_some_iff.1 hx).1; omega
   rw [List.getElem?_take, if_pos hji] at hx hcj
   exact hp j x c hx hcj
theorem isWrong_any (E : Nat → Prop) (v : Value) (r : Rd) (w : World) (h : RdIn E w v r) : Calls Tryz.prog 153 #[v] w fun e w' => e = .returned (.bool (!okStep r)) ∧ Fr No w w' := by
 obtain ⟨a, cp, rfl, hcp, hl0⟩ := h.form
 have HX := hid h
 obtain ⟨n, hn⟩ : ∃ n, r.length = n := ⟨_, rfl⟩
 obtain ⟨R, hR⟩ : ∃ R, (!okStep r) = R := ⟨_, rfl⟩
 rw [hR]
 rw [hn] at HX hl0 hcp ⊢
 have HNN := hid hn
 by_cases h0 : n = 0 ∨ 4 < n
 ·have hRt : R = true := by
   rw [← hR]
   unfold okStep
   rcases h0 with h0 | h0
   ·rw [decide_eq_false (show ¬ 1 ≤ r.length by omega)]; rfl
   ·rw [decide_eq_false (show ¬ r.length ≤ 4 by omega)]; simp
  subst hRt
  rcases h0 with rfl | h0
  ·clear hR hn h
   go_enter Tryz.func153, Tryz.ntmps153
   go_wp2
   go_ret
   exact ⟨rfl, Fr.refl _ _⟩
  ·have h1 : (4 : Int) < n := by omega
   have h2 : ¬ (n : Int) = 0 := by omega
   clear hR hn h h0
   go_enter Tryz.func153, Tryz.ntmps153
   go_wp2
   go_ret
   exact ⟨rfl, Fr.refl _ _⟩
 ·have hRt : (!typs [] r) = R := by
   rw [← hR]
   unfold okStep
   rw [decide_eq_true (show 1 ≤ r.length by omega), decide_eq_true (show r.length ≤ 4 by omega)]
   rfl
  have HRT : Hid ((!typs (r.take 0) (r.drop 0)) = R) := hid hRt
  have h1 : ¬ (4 : Int) < n := by omega
  have h2 : ¬ (n : Int) = 0 := by omega
  have h4 : (n : Int) ≤ 4 := by omega
  have hcpi : (n : Int) ≤ cp := by omega
  clear hR hRt hn h h0
  go_enter Tryz.func153, Tryz.ntmps153
  go_wp2_with fail
  go_loopw [16] (fun iv wr => ∃ (i : Nat), iv = .int .i64 i ∧ i ≤ n ∧ Hid (Fr No w wr) ∧ Hid ((!typs (r.take i) (r.drop i)) = R)) (fun iv _ => n - (intOf iv).toNat)
  case atStart => exact ⟨0, rfl, Nat.zero_le _, hid (Fr.refl _ _), HRT⟩
  case round =>
   obtain ⟨i, rfl, hi, HF, HT⟩ := hrel
   by_cases hlt : i < n
   ·obtain ⟨x, hx⟩ : ∃ x, r[i]? = some x := ⟨_, List.getElem?_eq_getElem (by rw [HNN.out]; exact hlt)⟩
    have hlti : (i : Int) < n := by omega
    have hi0 : (0 : Int) ≤ i := by omega
    have hicp : (i : Int) ≤ cp := by omega
    obtain ⟨g, o, cq, c, e1, -, hgw, hrr, hc, hxa⟩ := (RdIn.no HX.out HF.out).get hx
    rw [HNN.out] at e1
    obtain ⟨rfl, rfl⟩ := K.sj e1
    obtain ⟨rfl, hs1, hs2⟩ := hxa
    have HRR := hid hrr; have HS1 := hid hs1
    have hdrop : r.drop i = x :: r.drop (i + 1) := by
     have hl : i < r.length := by rw [HNN.out]; exact hlt
     rw [List.drop_eq_getElem_cons hl]
     rw [List.getElem?_eq_getElem hl] at hx
     rw [Option.some.inj hx]
    have htake : r.take (i + 1) = r.take i ++ [x] := by rw [List.take_add_one, hx]; rfl
    have HT2 : Hid ((!(typ x.1 && !dup (r.take i) x.1 && typs (r.take (i + 1)) (r.drop (i + 1)))) = R) := hid (by
     have h := HT.out
     rw [hdrop] at h
     rw [htake]
     exact h)
    have HLT := hid hlt
    have HSUB : Hid (∀ w', Fr No w w' → Sl 2 AvC E w' (.slice (some ⟨g, o, none⟩) i cp) (r.take i)) := hid (fun w' hf => Sl.take (RdIn.no HX.out hf) i (Nat.le_of_lt HLT.out))
    clear hc hgw hrr hs1 hs2 hx hdrop htake HT hi hlt
    go_wp2_with (first
     | ((with_reducible refine K.atO (.load 191 _) ?_); refine wpL_load rfl _ _ rfl g (o + i * 2) rfl [.string (sb x.1), .string (sb x.2)] _ HRR.out rfl rfl infoAv ?_)
     | ((with_reducible refine K.atO (.alloc 191) ?_); refine wpList_plain rfl fun K1 hK1 => ?_; refine wp_alloc 191 rfl (.agg #[.string ⟨#[]⟩, .string ⟨#[]⟩]) (fun _ => by kernel_rfl) [.string ⟨#[]⟩, .string ⟨#[]⟩] rfl ?_; intro w2 HB2 HF2 HS2; refine hK1 _ _ ?_; clear hK1 K1)
     | ((with_reducible refine K.atO (.store 191 _ _) ?_); refine wpL_store rfl _ _ _ rfl wr.heap.size 0 [.string (sb x.1), .string (sb x.2)] rfl rfl 191 _ HB2.out (by simp) infoAv (by simp [Value.oneCell']) ?_; intro w3 HB3 HF3 HS3;
              (have hcell3 : w3.cell? ⟨wr.heap.size, 0, none⟩ = some (.string (sb x.1)) := HB3.out.cell 0)))
    have HFR3 : Hid (Fr No wr w3) := hid (HF2.out.trans HF3.out fun k e => .inr (by have e : k = wr.heap.size := e; omega))
    have HBK : Hid (Blk w3 wr.heap.size 191 [.string (sb x.1), .string (sb x.2)]) := hid (by simpa [spl] using HB3.out)
    refine (type_any x.1 w3).mono ?_
    rintro e w4 ⟨rfl, f4⟩
    have HFR4 := hid (HF.out.trans' (HFR3.out.trans' f4))
    have HBK4 := hid (HBK.out.fr f4 id)
    clear f4 hcell3
    cases ht : typ x.1 with
    | false =>
     have hRf : R = true := by have h := HT2.out; rw [ht] at h; exact h.symm
     subst hRf
     clear ht
     go_wp2_with fail
     go_ret
     exact ⟨rfl, HFR4.out⟩
    | true =>
     obtain ⟨b, hb⟩ : ∃ b, wr.heap.size = b := ⟨_, rfl⟩
     rw [hb] at HBK4 ⊢
     have HC := hid (containsAv (α := Av) 190 [.pointer (some ⟨b, 0, none⟩)] (fun a => low a.1 == low x.1) (fun w' a c => AvC a c ∧ Blk w' b 191 [.string (sb x.1), .string (sb x.2)]) E (.slice (some ⟨g, o, none⟩) i cp) (r.take i) w4
      (fun w w' a c h hf => ⟨h.1, h.2.fr hf id⟩) (Sl.fr (HSUB.out w4 HFR4.out) (Fr.refl No w4) (fun _ _ _ e => e) (fun a c _ h => ⟨h, HBK4.out⟩)) (fun _ _ => by kernel_rfl)
      (fun a _ c wv hp _ => by
       obtain ⟨⟨rfl, hz1, -⟩, hbk⟩ := hp
       exact again_any a.1 a.2 x.1 x.2 b wv hbk hz1 HS1.out))
     clear hb
     go_wp2_with fail
     refine HC.out.mono ?_
     rintro e w5 ⟨rfl, f5⟩
     have HFR5 := hid (HFR4.out.trans' f5)
     clear f5
     cases hd : dup (r.take i) x.1 with
     | true =>
      have hRf : R = true := by have h := HT2.out; rw [ht, hd] at h; exact h.symm
      subst hRf
      have hd2 : ((r.take i).any fun a => low a.1 == low x.1) = true := hd
      rw [hd2]
      clear ht hd hd2
      go_wp2_with fail
      go_ret
      exact ⟨rfl, HFR5.out⟩
     | false =>
      have HT3 : Hid ((!typs (r.take (i + 1)) (r.drop (i + 1))) = R) := hid (by have h := HT2.out; rw [ht, hd] at h; exact h)
      have hd2 : ((r.take i).any fun a => low a.1 == low x.1) = false := hd
      rw [hd2]
      clear ht hd hd2
      go_wp2_with fail
      refine ⟨⟨i + 1, by go_num, HLT.out, HFR5, HT3⟩, ?_⟩
      have := HLT.out
      simp [intOf]; omega
   ·obtain rfl : i = n := by omega
    have hRf : R = false := by
     have h := HT.out
     rw [← HNN.out, List.drop_length] at h
     exact h.symm
    subst hRf
    go_wp2_with fail
    go_ret
    exact ⟨rfl, HF.out⟩
theorem isBuilt_any (E : Nat → Prop) (v : Value) (n : Nm) (w : World) (h : NmIn E w v n) : Calls Tryz.prog 116 #[v] w fun e w' => e = .returned (.bool (built n)) ∧ Fr No w w' := by
 have HC := hid (containsRd (α := Rd) 153 [] (fun r => !okStep r) (fun w' r v => RdIn E w' v r) E v n w (fun w w' r v h hf => h.no hf) h (fun _ _ => by kernel_rfl)
  (fun r _ v wv hp _ => isWrong_any E v r wv hp))
 have hany : (n.any fun r => !okStep r) = !n.all okStep := by
  rw [List.all_eq_not_any_not]
  simp
 rw [hany] at HC
 obtain ⟨a, cp, rfl, -, hl0⟩ := h.form
 obtain ⟨m, hm⟩ : ∃ m, n.length = m := ⟨_, rfl⟩
 unfold built
 rw [hm] at HC ⊢
 clear h hany hm
 by_cases h16 : m ≤ 16
 ·rw [decide_eq_true h16]
  have h1 : (m : Int) ≤ 16 := by omega
  clear h16
  go_enter Tryz.func116, Tryz.ntmps116
  go_wp2_with fail
  refine HC.out.mono ?_
  rintro e w1 ⟨rfl, f1⟩
  have HF := hid f1
  clear f1
  cases hq : n.all okStep with
  | true =>
   have HQ := hid hq
   clear hq
   go_wp2_with fail
   go_ret
   exact ⟨by rw [HQ.out]; rfl, HF.out⟩
  | false =>
   have HQ := hid hq
   clear hq
   go_wp2_with fail
   go_ret
   exact ⟨by rw [HQ.out]; rfl, HF.out⟩
 ·rw [decide_eq_false h16]
  have h1 : ¬ (m : Int) ≤ 16 := by omega
  clear h16 HC
  go_enter Tryz.func116, Tryz.ntmps116
  go_wp2
  go_ret
  exact ⟨rfl, Fr.refl _ _⟩
end Go.Proofs.YtgbiicipkbpmeaaGreatDoor.DN
namespace Go.Proofs.YtgbiicipkbpmeaaGreatDoor.SC
set_option maxRecDepth 100000
set_option maxHeartbeats 128000000
open Go.RowKit K BE DN
def clV (c : Cl) (v1 v2 : Value) : List Value := [.string (sb c.nm), .int .i64 c.kind, .string (sb c.sup), v1, v2]
theorem fnd_lt {L : List B} {s : B} {i : Nat} (h : fnd L s = some i) : i < L.length := by
 unfold fnd at h
 rw [List.findIdx?_eq_some_iff_getElem] at h
 exact h.1
theorem isRightSup_any {S : Nat → Prop} (c : Cl) (v1 v2 v : Value) (X : List Cl) (w : World) (h : ClsIn S w v X) (hz : Sz c.sup) :
  Calls Tryz.prog 83 #[.agg (clV c v1 v2).toArray, v] w fun e w' => e = .returned (.bool (supOk X c)) ∧ Fr No w w' := by
 have HX := hid h; have HZ := hid hz
 obtain ⟨a, cp, rfl, hcap, hl⟩ := h.form
 obtain ⟨R, hR⟩ : ∃ R, supOk X c = R := ⟨_, rfl⟩
 rw [hR]
 have HR := hid hR
 have HF := hid (fun w' hf => findCl_any c.sup (.slice a X.length cp) X w' (ClsIn.fr (D := No) HX.out hf (fun _ _ _ e => e)) HZ.out)
 obtain ⟨n, hn⟩ : ∃ n, X.length = n := ⟨_, rfl⟩
 have HNN := hid hn
 rw [hn] at HF HX hcap hl ⊢
 have hni : (n : Int) ≤ 140737488351232 := by omega
 have hnc : (n : Int) ≤ cp := by omega
 clear h hz hR hn hcap hl
 go_enter Tryz.func83, Tryz.ntmps83
 go_wp2_with (first
  | ((with_reducible refine K.atO (.box 55 _) ?_); refine wpL_box rfl _ _ rfl _ rfl (clV c v1 v2) rfl ?_; intro w1 HB1 HF1 HS1; refine Hid.out ?_))
 obtain ⟨g, hg⟩ : ∃ g, w.heap.size = g := ⟨_, rfl⟩
 rw [hg] at HB1 ⊢
 clear hg
 have c2 : w1.cell? ⟨g, 2, none⟩ = some (.string (sb c.sup)) := HB1.out.cell 2
 refine hid ?_
 obtain ⟨P, hP⟩ : ∃ P, decide (c.sup = []) = P := ⟨_, rfl⟩
 have HP := hid hP
 clear hP
 cases P with
 | true =>
  obtain rfl : R = true := by
   have h := HR.out
   have h2 := HP.out
   rw [decide_eq_true_eq] at h2
   unfold supOk at h
   rw [if_pos h2] at h
   exact h.symm
  go_wp2_with (first
   | ((with_reducible refine K.atO (.binOp .eql 9 _ _ _) ?_); refine wpL_valZ rfl (.bool true) (by rw [← HP.out]; exact exec_eqS _ _ _ rfl c.sup [] rfl rfl w1) ?_))
  go_ret
  exact ⟨rfl, HF1.out⟩
 | false =>
  have HR1 : Hid ((match fnd (X.map (·.nm)) c.sup with
   | none => false
   | some i => match X[i]? with
    | none => false
    | some d => d.kind == 0 || d.kind == c.kind) = R) := hid (by
   have h := HR.out
   have h2 := HP.out
   rw [decide_eq_false_iff_not] at h2
   unfold supOk at h
   rw [if_neg h2] at h
   exact h)
  go_wp2_with (first
   | ((with_reducible refine K.atO (.binOp .eql 9 _ _ _) ?_); refine wpL_valZ rfl (.bool false) (by rw [← HP.out]; exact exec_eqS _ _ _ rfl c.sup [] rfl rfl w1) ?_))
  refine (HF.out _ HF1.out).mono ?_
  rintro e w2 ⟨rfl, f2⟩
  have HF2 := hid (HF1.out.trans' f2)
  have b1 : w2.cell? ⟨g, 1, none⟩ = some (.int .i64 c.kind) := (HB1.out.fr f2 id).cell 1
  clear f2 c2
  cases hfd : fnd (X.map (·.nm)) c.sup with
  | none =>
   obtain rfl : R = false := by have h := HR1.out; rw [hfd] at h; exact h.symm
   have hm := idx_no (fun x : Cl => x.nm) hfd
   rw [hm]
   clear hfd hm
   go_wp2_with fail
   go_quiet (fail)
   go_wp2_with fail
   go_ret
   exact ⟨rfl, HF2.out.drewN _⟩
  | some i =>
   have hil : i < X.length := by have := fnd_lt hfd; rwa [List.length_map] at this
   obtain ⟨d, hd⟩ : ∃ d, X[i]? = some d := ⟨_, List.getElem?_eq_getElem hil⟩
   have HR2 : Hid ((d.kind == 0 || d.kind == c.kind) = R) := hid (by have h := HR1.out; rw [hfd] at h; simp only [hd] at h; exact h)
   have hm := idx_some (fun x : Cl => x.nm) hfd
   rw [hm]
   obtain ⟨gs, o, cp', cs, e1, -, -, hr, -, hp⟩ := (ClsIn.fr (D := No) HX.out HF2.out (fun _ _ _ e => e)).get hd
   obtain ⟨u1, u2, rfl, -⟩ := hp
   rw [HNN.out] at e1 hil
   obtain ⟨rfl, rfl⟩ := K.sj e1
   have k1 : w2.cell? ⟨gs, o + i * 5 + 1, none⟩ = some (.int .i64 d.kind) := hr 1 _ rfl
   have hi0 : (0 : Int) ≤ i := by omega
   have hin : (i : Int) < n := by omega
   clear hfd hm hd hr hil
   cases hk : (d.kind == 0) with
   | true =>
    obtain rfl : R = true := by have h := HR2.out; rw [hk] at h; exact h.symm
    go_wp2_with fail
    go_quiet (fail)
    go_wp2_with fail
    go_ret
    exact ⟨rfl, HF2.out.drewN _⟩
   | false =>
    have HR3 : Hid ((d.kind == c.kind) = R) := hid (by have h := HR2.out; rw [hk] at h; exact h)
    go_wp2_with fail
    go_quiet (fail)
    go_wp2_with fail
    go_ret
    exact ⟨by rw [← HR3.out]; rfl, HF2.out.drewN _⟩
theorem exec_lssI {op : Oper} {a : Act} (x y : Operand) (u : TypeId) (ho : op.op = .binOp .lss 3 x y u) (p q : Int) (r : Bool) (hr : decide (p < q) = r) (hx : a.eval x = .int .i64 p) (hy : a.eval y = .int .i64 q) (w : World) : (execOp a.eval op).run Tryz.prog w = .ok (.value (.bool r)) w := by
 subst hr
 unfold execOp
 simp only [ho, hx, hy]
 simp [go_sem, eqGuard, Result.andThen]
theorem exec_gtrI {op : Oper} {a : Act} (x y : Operand) (u : TypeId) (ho : op.op = .binOp .gtr 3 x y u) (p q : Int) (r : Bool) (hr : decide (q < p) = r) (hx : a.eval x = .int .i64 p) (hy : a.eval y = .int .i64 q) (w : World) : (execOp a.eval op).run Tryz.prog w = .ok (.value (.bool r)) w := by
 subst hr
 unfold execOp
 simp only [ho, hx, hy]
 simp [go_sem, eqGuard, Result.andThen]
theorem zeroTy : ∀ w, (zeroValue 53).run Tryz.prog w = .ok (.agg #[.string ⟨#[]⟩, .int .i64 0, .bool false, .bool false, .bool false, .bool false]) w := fun _ => by kernel_rfl
theorem zeroCl : ∀ w, (zeroValue 55).run Tryz.prog w = .ok (.agg #[.string ⟨#[]⟩, .int .i64 0, .string ⟨#[]⟩, .slice none 0 0, .slice none 0 0]) w := fun _ => by kernel_rfl
theorem oneTy (t : Ty) : ∀ v ∈ tyV t, v.oneCell' = true := by
 intro v hv
 simp only [tyV, List.mem_cons, List.not_mem_nil, or_false] at hv
 rcases hv with rfl | rfl | rfl | rfl | rfl | rfl <;> rfl
theorem drop_at {α : Type} {X : List α} {i : Nat} {x : α} (h : X[i]? = some x) : X.drop i = x :: X.drop (i + 1) ∧ X.take (i + 1) = X.take i ++ [x] := by
 obtain ⟨hl, e⟩ := List.getElem?_eq_some_iff.1 h
 exact ⟨by rw [List.drop_eq_getElem_cons hl, e], by rw [List.take_add_one, h]; rfl⟩
theorem areRightTypes_any {S : Nat → Prop} (v : Value) (X : List Ty) (w : World) (h : TysIn S w v X) :
  Calls Tryz.prog 43 #[v] w fun e w' => e = .returned (.bool (rTy [] X)) ∧ Fr No w w' := by
 have HX := hid h
 obtain ⟨a, cp, rfl, hcap, hl⟩ := h.form
 obtain ⟨R, hR⟩ : ∃ R, rTy [] X = R := ⟨_, rfl⟩
 rw [hR]
 have HR : Hid (rTy ((X.take 0).map (·.nm)) (X.drop 0) = R) := hid hR
 obtain ⟨n, hn⟩ : ∃ n, X.length = n := ⟨_, rfl⟩
 have HNN := hid hn
 rw [hn] at HX hcap hl ⊢
 have hni : (n : Int) ≤ 140737488351232 := by omega
 have hnc : (n : Int) ≤ cp := by omega
 clear h hR hn hcap hl
 go_enter Tryz.func43, Tryz.ntmps43
 go_wp2_with fail
 go_loopw [7] (fun iv wr => ∃ (i : Nat), iv = .int .i64 i ∧ i ≤ n ∧ Hid (Fr No w wr) ∧ Hid (rTy ((X.take i).map (·.nm)) (X.drop i) = R)) (fun iv _ => n - (intOf iv).toNat)
 case atStart => exact ⟨0, rfl, Nat.zero_le _, hid (Fr.refl _ _), HR⟩
 case round =>
  obtain ⟨i, rfl, hi, HF, HT⟩ := hrel
  by_cases hlt : i < n
  ·obtain ⟨t, ht⟩ : ∃ t, X[i]? = some t := ⟨_, List.getElem?_eq_getElem (by rw [HNN.out]; exact hlt)⟩
   have hlti : (i : Int) < n := by omega
   have hi0 : (0 : Int) ≤ i := by omega
   have hicp : (i : Int) ≤ cp := by omega
   obtain ⟨g, o, cq, c, e1, -, -, hr, -, hp⟩ := (TysIn.fr (D := No) HX.out HF.out (fun _ _ _ e => e)).get ht
   rw [HNN.out] at e1
   obtain ⟨rfl, rfl⟩ := K.sj e1
   obtain ⟨rfl, hz⟩ := hp
   have HRR := hid hr; have HZ := hid hz
   obtain ⟨hdrop, htake⟩ := drop_at ht
   have HT2 : Hid ((newN ((X.take i).map (·.nm)) t.nm && (decide (1 ≤ t.syn) && decide (t.syn ≤ 5)) && rTy ((X.take (i + 1)).map (·.nm)) (X.drop (i + 1))) = R) := hid (by
    have h := HT.out
    rw [hdrop] at h
    rw [htake, List.map_append]
    exact h)
   have HLT := hid hlt
   have HSUB : Hid (∀ w', Fr No w w' → TysIn S w' (.slice (some ⟨g, o, none⟩) i cp) (X.take i)) := hid (fun w' hf => Sl.take (TysIn.fr (D := No) HX.out hf (fun _ _ _ e => e)) i (Nat.le_of_lt HLT.out))
   clear hr hz ht hdrop htake HT hi hlt
   go_wp2_with (first
    | ((with_reducible refine K.atO (.load 53 _) ?_); refine wpL_load rfl _ _ rfl g (o + i * 6) rfl (tyV t) _ HRR.out rfl rfl infoTy ?_)
    | ((with_reducible refine K.atO (.alloc 53) ?_); refine wpL_alloc rfl _ rfl _ zeroTy _ rfl ?_; intro w2 HB2 HF2 HS2)
    | ((with_reducible refine K.atO (.store 53 _ _) ?_); refine wpL_store rfl _ _ _ rfl wr.heap.size 0 (tyV t) rfl rfl 53 _ HB2.out (by simp [tyV]) infoTy (oneTy t) ?_; intro w3 HB3 HF3 HS3))
   have HFR3 : Hid (Fr No wr w3) := hid (HF2.out.trans HF3.out fun k e => .inr (by have e : k = wr.heap.size := e; omega))
   obtain ⟨b, hb⟩ : ∃ b, wr.heap.size = b := ⟨_, rfl⟩
   rw [hb] at HB3 ⊢
   have HBK : Hid (Blk w3 b 53 (tyV t)) := hid HB3.out
   have c0 : w3.cell? ⟨b, 0, none⟩ = some (.string (sb t.nm)) := HBK.out.cell 0
   have c1 : w3.cell? ⟨b, 1, none⟩ = some (.int .i64 t.syn) := HBK.out.cell 1
   have hold : Facts.hold [(1, fun w' => w'.cell? ⟨b, 0, none⟩ = some (.string (sb t.nm))), (9, fun w' => w'.cell? ⟨b, 1, none⟩ = some (.int .i64 t.syn)), (14, fun w' => w'.cell? ⟨b, 1, none⟩ = some (.int .i64 t.syn))] w3.drew := Facts.cons_hold c0 (Facts.cons_hold c1 (Facts.cons_hold c1 (Facts.nil_hold _)))
   clear hb HB3 HB2 HF2 HF3 HS2 HS3
   refine wpD_region hold (by kernel_rfl) 17 rfl ?_
   (refine K.pl 0 (v := ?_) rfl ?_ ?_; rotate_left; (intro; go_simp; try with_reducible rfl); simp only [K.pu])
   (refine K.pl 2 (v := ?_) rfl ?_ ?_; rotate_left; (intro; go_simp; try with_reducible rfl); simp only [K.pu])
   (refine K.pl 3 (v := ?_) rfl ?_ ?_; rotate_left; (intro; go_simp; try with_reducible rfl); simp only [K.pu])
   (refine K.pl 4 (v := ?_) rfl ?_ ?_; rotate_left; (intro; go_simp; try with_reducible rfl); simp only [K.pu])
   (refine K.tk 1 _ rfl K.m0 (v := ?_) ?_ ?_; rotate_left; (intro _ _hw; go_simp; try with_reducible rfl); simp only [K.pu])
   clear hold
   refine K.on 5 [(9, fun w' => w'.cell? ⟨b, 1, none⟩ = some (.int .i64 t.syn)), (14, fun w' => w'.cell? ⟨b, 1, none⟩ = some (.int .i64 t.syn))] rfl (fun K5 hK5 => ?_)
   refine wp_call _ _ _ rfl 77 [] rfl (fun vs w => by kernel_rfl) [.string (sb t.nm), .slice (some ⟨g, o, none⟩) i cp, .func (.func 78) #[] #[]] (by rfl) ?_
   refine (isNewTy_any t.nm _ (X.take i) w3.drew (HSUB.out _ (HF.out.trans' (HFR3.out.drew))) HZ.out).mono ?_
   rintro e w4 ⟨rfl, f4⟩
   have c14 : w4.cell? ⟨b, 1, none⟩ = some (.int .i64 t.syn) := f4.cell (show w3.drew.cell? _ = _ from c1) id
   have HFR4 := hid (HF.out.trans' (HFR3.out.drew.trans' f4))
   refine ⟨_, rfl, hK5 _ _ (Facts.cons_hold c14 (Facts.cons_hold c14 (Facts.nil_hold _))) ?_⟩
   have hold : Facts.hold [(9, fun w' => w'.cell? ⟨b, 1, none⟩ = some (.int .i64 t.syn)), (14, fun w' => w'.cell? ⟨b, 1, none⟩ = some (.int .i64 t.syn))] w4 := Facts.cons_hold c14 (Facts.cons_hold c14 (Facts.nil_hold _))
   clear hK5 K5 f4 c0 c1 HBK HFR3
   simp only [K.pu]
   cases hq : newN ((X.take i).map (·.nm)) t.nm with
   | false =>
    obtain rfl : R = false := by have h := HT2.out; rw [hq] at h; exact h.symm
    clear hq
    (refine K.pl 6 (v := ?_) rfl ?_ ?_; rotate_left; (intro; go_simp; try with_reducible rfl); simp only [K.pu])
    (refine K.pl 7 (v := ?_) rfl ?_ ?_; rotate_left; (intro; go_simp; try with_reducible rfl); simp only [K.pu])
    (refine wpD_skip 8 rfl (by kernel_rfl) (by kernel_rfl) (by kernel_rfl) (fun _ _ _ h => h) (by rfl) (by assumption) ?_; simp only [K.pu])
    (refine wpD_skip 9 rfl (by kernel_rfl) (by kernel_rfl) (by kernel_rfl) (fun _ _ _ h => h) (by rfl) (by assumption) ?_; simp only [K.pu])
    (refine wpD_skip 10 rfl (by kernel_rfl) (by kernel_rfl) (by kernel_rfl) (fun _ _ _ h => h) (by rfl) (by assumption) ?_; simp only [K.pu])
    (refine K.pl 11 (v := ?_) rfl ?_ ?_; rotate_left; (intro; go_simp; try with_reducible rfl); simp only [K.pu])
    (refine K.pl 12 (v := ?_) rfl ?_ ?_; rotate_left; (intro; go_simp; try with_reducible rfl); simp only [K.pu])
    (refine wpD_skip 13 rfl (by kernel_rfl) (by kernel_rfl) (by kernel_rfl) (fun _ _ _ h => h) (by rfl) (by assumption) ?_; simp only [K.pu])
    (refine wpD_skip 14 rfl (by kernel_rfl) (by kernel_rfl) (by kernel_rfl) (fun _ _ _ h => h) (by rfl) (by assumption) ?_; simp only [K.pu])
    (refine wpD_skip 15 rfl (by kernel_rfl) (by kernel_rfl) (by kernel_rfl) (fun _ _ _ h => h) (by rfl) (by assumption) ?_; simp only [K.pu])
    (refine K.pl 16 (v := ?_) rfl ?_ ?_; rotate_left; (intro; go_simp; try with_reducible rfl); simp only [K.pu])
    clear hold
    refine wpD_done (by kernel_rfl) ?_ _
    go_wp2_with fail
    go_ret
    exact ⟨rfl, HFR4.out⟩
   | true =>
    (refine K.pl 6 (v := ?_) rfl ?_ ?_; rotate_left; (intro; go_simp; try with_reducible rfl); simp only [K.pu])
    (refine K.pl 7 (v := ?_) rfl ?_ ?_; rotate_left; (intro; go_simp; try with_reducible rfl); simp only [K.pu])
    (refine K.pl 8 (v := ?_) rfl ?_ ?_; rotate_left; (intro; go_simp; try with_reducible rfl); simp only [K.pu])
    (refine K.tk 9 _ rfl K.m0 (v := ?_) ?_ ?_; rotate_left; (intro _ _hw; go_simp; try with_reducible rfl); simp only [K.pu])
    by_cases h1 : 1 ≤ t.syn
    case neg =>
     obtain rfl : R = false := by have h := HT2.out; rw [hq, decide_eq_false h1] at h; exact h.symm
     clear hq
     (refine K.pl 10 (v := (.bool true)) rfl ?_ ?_; (intro _w; exact exec_lssI _ _ _ rfl t.syn 1 true (decide_eq_true (by omega)) rfl rfl _w); simp only [K.pu])
     (refine K.pl 11 (v := ?_) rfl ?_ ?_; rotate_left; (intro; go_simp; try with_reducible rfl); simp only [K.pu])
     (refine K.pl 12 (v := ?_) rfl ?_ ?_; rotate_left; (intro; go_simp; try with_reducible rfl); simp only [K.pu])
     (refine wpD_skip 13 rfl (by kernel_rfl) (by kernel_rfl) (by kernel_rfl) (fun _ _ _ h => h) (by rfl) (by assumption) ?_; simp only [K.pu])
     (refine wpD_skip 14 rfl (by kernel_rfl) (by kernel_rfl) (by kernel_rfl) (fun _ _ _ h => h) (by rfl) (by assumption) ?_; simp only [K.pu])
     (refine wpD_skip 15 rfl (by kernel_rfl) (by kernel_rfl) (by kernel_rfl) (fun _ _ _ h => h) (by rfl) (by assumption) ?_; simp only [K.pu])
     (refine K.pl 16 (v := ?_) rfl ?_ ?_; rotate_left; (intro; go_simp; try with_reducible rfl); simp only [K.pu])
     clear hold
     refine wpD_done (by kernel_rfl) ?_ _
     go_wp2_with fail
     go_ret
     exact ⟨rfl, HFR4.out⟩
    (refine K.pl 10 (v := (.bool false)) rfl ?_ ?_; (intro _w; exact exec_lssI _ _ _ rfl t.syn 1 false (decide_eq_false (by omega)) rfl rfl _w); simp only [K.pu])
    (refine K.pl 11 (v := ?_) rfl ?_ ?_; rotate_left; (intro; go_simp; try with_reducible rfl); simp only [K.pu])
    (refine K.pl 12 (v := ?_) rfl ?_ ?_; rotate_left; (intro; go_simp; try with_reducible rfl); simp only [K.pu])
    (refine K.pl 13 (v := ?_) rfl ?_ ?_; rotate_left; (intro; go_simp; try with_reducible rfl); simp only [K.pu])
    (refine K.tk 14 _ rfl K.m1 (v := ?_) ?_ ?_; rotate_left; (intro _ _hw; go_simp; try with_reducible rfl); simp only [K.pu])
    by_cases h2 : t.syn ≤ 5
    case neg =>
     obtain rfl : R = false := by have h := HT2.out; rw [hq, decide_eq_false h2, Bool.and_false] at h; exact h.symm
     clear hq
     (refine K.pl 15 (v := (.bool true)) rfl ?_ ?_; (intro _w; exact exec_gtrI _ _ _ rfl t.syn 5 true (decide_eq_true (by omega)) rfl rfl _w); simp only [K.pu])
     (refine K.pl 16 (v := ?_) rfl ?_ ?_; rotate_left; (intro; go_simp; try with_reducible rfl); simp only [K.pu])
     clear hold
     refine wpD_done (by kernel_rfl) ?_ _
     go_wp2_with fail
     go_ret
     exact ⟨rfl, HFR4.out⟩
    have HT3 : Hid (rTy ((X.take (i + 1)).map (·.nm)) (X.drop (i + 1)) = R) := hid (by have h := HT2.out; rw [hq, decide_eq_true h1, decide_eq_true h2] at h; exact h)
    clear hq
    (refine K.pl 15 (v := (.bool false)) rfl ?_ ?_; (intro _w; exact exec_gtrI _ _ _ rfl t.syn 5 false (decide_eq_false (by omega)) rfl rfl _w); simp only [K.pu])
    (refine K.pl 16 (v := ?_) rfl ?_ ?_; rotate_left; (intro; go_simp; try with_reducible rfl); simp only [K.pu])
    clear hold
    refine wpD_done (by kernel_rfl) ?_ _
    clear h1 h2
    go_wp2_with fail
    refine ⟨⟨i + 1, by go_num, HLT.out, HFR4, HT3⟩, ?_⟩
    have := HLT.out
    simp [intOf]; omega
  ·obtain rfl : i = n := by omega
   obtain rfl : R = true := by
    have h := HT.out
    rw [← HNN.out, List.drop_length] at h
    exact h.symm
   go_wp2_with fail
   go_ret
   exact ⟨rfl, HF.out⟩
theorem ls_str {S : Nat → Prop} {w : World} {v : Value} {l : List B} (h : LsIn S w v l) : Sl 1 (fun x c => ∃ v, c = [v] ∧ (v = .string (sb x) ∧ Sz x)) S w v l := Sl.mono h (fun _ h _ => h) fun x c _ h => ⟨_, h.1, rfl, h.2⟩
theorem noType_any {S : Nat → Prop} (n : B) (b : Nat) (vt vc : Value) (X : List Ty) (w : World) (hb : Blk w b 25 [vt, vc]) (h : TysIn S w vt X) (hz : Sz n) :
  Calls Tryz.prog 79 #[.string (sb n), .pointer (some ⟨b, 0, none⟩)] w fun e w' => e = .returned (.bool (fnd (X.map (·.nm)) n).isNone) ∧ Fr No w w' := by
 have hc : w.cell? ⟨b, 0, none⟩ = some vt := hb.cell 0
 have H := hid (findTy_any n vt X w h hz)
 rw [← idx_lt (fun x : Ty => x.nm) X n]
 obtain ⟨m, hm⟩ : ∃ m, idxI X (fun x => low x.nm == low n) = m := ⟨_, rfl⟩
 rw [hm] at H ⊢
 obtain ⟨a, cp, rfl, -, -⟩ := h.form
 generalize X.length = k at H hc hb
 clear h hz hm hb
 go_enter Tryz.func79, Tryz.ntmps79
 go_wp2_with fail
 refine H.out.mono ?_
 rintro e w1 ⟨rfl, f1⟩
 have HF := hid f1
 clear f1 hc
 go_wp2_with fail
 go_ret
 exact ⟨rfl, HF.out⟩
theorem has_not (tn l : List B) : (l.any fun m => (fnd tn m).isNone) = !has tn l := by
 unfold has
 induction l with
 | nil => rfl
 | cons a r ih =>
  rw [List.any_cons, List.all_cons, ih]
  cases fnd tn a <;> simp
theorem oneCl (c : Cl) {v1 v2 : Value} (h1 : v1.oneCell' = true) (h2 : v2.oneCell' = true) : ∀ v ∈ clV c v1 v2, v.oneCell' = true := by
 intro v hv
 simp only [clV, List.mem_cons, List.not_mem_nil, or_false] at hv
 rcases hv with rfl | rfl | rfl | rfl | rfl
 ·rfl
 ·rfl
 ·rfl
 ·exact h1
 ·exact h2
theorem areRightClasses_any {S S2 : Nat → Prop} (vt vc : Value) (X : List Ty) (Y : List Cl) (w : World) (h : TysIn S w vt X) (hy : ClsIn S2 w vc Y) :
  Calls Tryz.prog 44 #[.agg #[vt, vc]] w fun e w' => e = .returned (.bool (rCl (X.map (·.nm)) [] Y)) ∧ Fr No w w' := by
 have HX := hid h; have HY := hid hy
 obtain ⟨a, cp, rfl, hcap, hl⟩ := hy.form
 obtain ⟨R, hR⟩ : ∃ R, rCl (X.map (·.nm)) [] Y = R := ⟨_, rfl⟩
 rw [hR]
 have HR : Hid (rCl (X.map (·.nm)) (Y.take 0) (Y.drop 0) = R) := hid hR
 obtain ⟨n, hn⟩ : ∃ n, Y.length = n := ⟨_, rfl⟩
 have HNN := hid hn
 rw [hn] at HY hcap hl ⊢
 have hni : (n : Int) ≤ 140737488351232 := by omega
 have hnc : (n : Int) ≤ cp := by omega
 clear h hy hR hn hcap hl
 go_enter Tryz.func44, Tryz.ntmps44
 go_wp2_with (first
  | ((with_reducible refine K.atO (.box 25 _) ?_); refine wpL_box rfl _ _ rfl _ rfl [vt, .slice a n cp] rfl ?_; intro w1 HB1 HF1 HS1; refine Hid.out ?_))
 obtain ⟨b, hb⟩ : ∃ b, w.heap.size = b := ⟨_, rfl⟩
 have HBB := hid hb
 rw [hb] at HB1 ⊢
 clear hb
 have s1 : w1.cell? ⟨b, 1, none⟩ = some (.slice a n cp) := HB1.out.cell 1
 refine hid ?_
 go_wp2_with fail
 go_loopw [11] (fun iv wr => ∃ (i : Nat), iv = .int .i64 i ∧ i ≤ n ∧ Hid (Fr No w1 wr) ∧ Hid (rCl (X.map (·.nm)) (Y.take i) (Y.drop i) = R)) (fun iv _ => n - (intOf iv).toNat)
 case atStart => exact ⟨0, rfl, Nat.zero_le _, hid (Fr.refl _ _), HR⟩
 case round =>
  clear s1
  obtain ⟨i, rfl, hi, HF, HT⟩ := hrel
  by_cases hlt : i < n
  ·obtain ⟨c, hc⟩ : ∃ c, Y[i]? = some c := ⟨_, List.getElem?_eq_getElem (by rw [HNN.out]; exact hlt)⟩
   have hlti : (i : Int) < n := by omega
   have hi0 : (0 : Int) ≤ i := by omega
   have hicp : (i : Int) ≤ cp := by omega
   have HW : Hid (Fr No w wr) := hid (HF1.out.trans' HF.out)
   obtain ⟨g, o, cq, cs, e1, -, -, hr, -, hp⟩ := (ClsIn.fr (D := No) HY.out HW.out (fun _ _ _ e => e)).get hc
   rw [HNN.out] at e1
   obtain ⟨rfl, rfl⟩ := K.sj e1
   obtain ⟨v1, v2, rfl, hz1, hz2, hv1, hv2, -⟩ := hp
   have HRR := hid hr; have HZ1 := hid hz1; have HZ2 := hid hz2; have HV1 := hid hv1; have HV2 := hid hv2
   have HONE : Hid (∀ v ∈ clV c v1 v2, v.oneCell' = true) := hid (oneCl c (by obtain ⟨a, cp, rfl, -⟩ := hv1.form; rfl) (by obtain ⟨a, cp, rfl, -⟩ := hv2.form; rfl))
   obtain ⟨hdrop, htake⟩ := drop_at hc
   have HT2 : Hid ((newN ((Y.take i).map (·.nm)) c.nm && (decide (0 ≤ c.kind) && decide (c.kind ≤ 2)) && supOk (Y.take i) c && has (X.map (·.nm)) c.must && has (X.map (·.nm)) c.may && rCl (X.map (·.nm)) (Y.take (i + 1)) (Y.drop (i + 1))) = R) := hid (by
    have h := HT.out
    rw [hdrop] at h
    rw [htake]
    exact h)
   have HLT := hid hlt
   have HSUB : Hid (∀ w', Fr No w w' → ClsIn S2 w' (.slice (some ⟨g, o, none⟩) i cp) (Y.take i)) := hid (fun w' hf => by
    have := Sl.take (ClsIn.fr (D := No) HY.out hf (fun _ _ _ e => e)) i (Nat.le_of_lt HLT.out)
    exact this)
   clear hr hz1 hz2 hv1 hv2 hc hdrop htake HT hi hlt
   go_wp2_with (first
    | ((with_reducible refine K.atO (.load 55 _) ?_); refine wpL_load rfl _ _ rfl g (o + i * 5) rfl (clV c v1 v2) _ HRR.out rfl rfl infoCl ?_)
    | ((with_reducible refine K.atO (.alloc 55) ?_); refine wpL_alloc rfl _ rfl _ zeroCl _ rfl ?_; intro w2 HB2 HF2 HS2)
    | ((with_reducible refine K.atO (.store 55 _ _) ?_); refine wpL_store rfl _ _ _ rfl wr.heap.size 0 (clV c v1 v2) rfl rfl 55 _ HB2.out (by simp [clV]) infoCl HONE.out ?_; intro w3 HB3 HF3 HS3; refine Hid.out ?_))
   have HFR3 : Hid (Fr No wr w3) := hid (HF2.out.trans HF3.out fun k e => .inr (by have e : k = wr.heap.size := e; omega))
   have HB13 : Hid (Blk w3 b 25 [vt, .slice (some ⟨g, o, none⟩) n cp]) := hid ((HB1.out.fr HF.out id).fr HFR3.out id)
   obtain ⟨b2, hb2⟩ : ∃ b2, wr.heap.size = b2 := ⟨_, rfl⟩
   rw [hb2] at HB3 ⊢
   have HBK : Hid (Blk w3 b2 55 (clV c v1 v2)) := hid HB3.out
   have HFW3 : Hid (Fr No w w3) := hid (HW.out.trans' HFR3.out)
   have HFWR3 : Hid (Fr No wr w3) := hid HFR3.out
   clear hb2 HB3 HB2 HF2 HF3 HS2 HS3 HFR3
   have s1 : w3.cell? ⟨b, 1, none⟩ = some (.slice (some ⟨g, o, none⟩) n cp) := HB13.out.cell 1
   have c0 : w3.cell? ⟨b2, 0, none⟩ = some (.string (sb c.nm)) := HBK.out.cell 0
   refine hid ?_
   go_wp2_with fail
   refine (isNewCl_any c.nm _ (Y.take i) w3 (HSUB.out _ HFW3.out) HZ1.out).mono ?_
   rintro e w4 ⟨rfl, f4⟩
   have HBK4 := hid (HBK.out.fr f4 id)
   have HB14 := hid (HB13.out.fr f4 id)
   have HFW4 := hid (HFW3.out.trans' f4)
   have HFWR4 := hid (HFWR3.out.trans' f4)
   clear f4 s1 c0 HBK HB13 HFW3
   cases hq : newN ((Y.take i).map (·.nm)) c.nm with
   | false =>
    obtain rfl : R = false := by have h := HT2.out; rw [hq] at h; exact h.symm
    clear hq
    go_wp2_with fail
    go_ret
    exact ⟨rfl, HFW4.out⟩
   | true =>
    have c1 : w4.cell? ⟨b2, 1, none⟩ = some (.int .i64 c.kind) := HBK4.out.cell 1
    by_cases h1 : 0 ≤ c.kind
    case neg =>
     obtain rfl : R = false := by have h := HT2.out; rw [hq, decide_eq_false h1] at h; exact h.symm
     clear hq
     have h1' : c.kind < 0 := by omega
     clear h1
     go_wp2_with fail
     go_ret
     exact ⟨rfl, HFW4.out⟩
    by_cases h2 : c.kind ≤ 2
    case neg =>
     obtain rfl : R = false := by have h := HT2.out; rw [hq, decide_eq_false h2, Bool.and_false] at h; exact h.symm
     clear hq
     have h2' : 2 < c.kind := by omega
     clear h2
     go_wp2_with fail
     go_ret
     exact ⟨rfl, HFW4.out⟩
    have HT3 : Hid ((supOk (Y.take i) c && has (X.map (·.nm)) c.must && has (X.map (·.nm)) c.may && rCl (X.map (·.nm)) (Y.take (i + 1)) (Y.drop (i + 1))) = R) := hid (by have h := HT2.out; rw [hq, decide_eq_true h1, decide_eq_true h2] at h; exact h)
    have HR4 : Hid (w4.rangeAt b2 0 (clV c v1 v2)) := hid (HBK4.out.range 0 _ (by rw [List.drop_zero, List.take_length]))
    have g1 : decide (c.kind < 0) = false := decide_eq_false (by omega)
    have g2 : decide (2 < c.kind) = false := decide_eq_false (by omega)
    clear hq HT2 h1 h2
    go_wp2_with (first
     | ((with_reducible refine K.atO (.load 55 _) ?_); refine wpL_valZ rfl (.agg (clV c v1 v2).toArray) (exec_load _ _ rfl b2 0 rfl (clV c v1 v2) _ rfl rfl infoCl w4 HR4.out) ?_))
    refine (isRightSup_any c v1 v2 _ (Y.take i) w4 (HSUB.out _ HFW4.out) HZ2.out).mono ?_
    rintro e w5 ⟨rfl, f5⟩
    have HBK5 := hid (HBK4.out.fr f5 id)
    have HB15 := hid (HB14.out.fr f5 id)
    have HFW5 := hid (HFW4.out.trans' f5)
    have HFWR5 := hid (HFWR4.out.trans' f5)
    clear f5 c1 HBK4 HB14 HFW4 HR4 g1 g2
    cases hq : supOk (Y.take i) c with
    | false =>
     obtain rfl : R = false := by have h := HT3.out; rw [hq] at h; exact h.symm
     clear hq
     go_wp2_with fail
     go_ret
     exact ⟨rfl, HFW5.out⟩
    | true =>
     have HT4 : Hid ((has (X.map (·.nm)) c.must && has (X.map (·.nm)) c.may && rCl (X.map (·.nm)) (Y.take (i + 1)) (Y.drop (i + 1))) = R) := hid (by have h := HT3.out; rw [hq] at h; exact h)
     have c3 : w5.cell? ⟨b2, 3, none⟩ = some v1 := HBK5.out.cell 3
     have HC := hid (fun (v0 : Value) (l : List B) (w6 : World) (hf : Fr No w w6) (hb6 : Blk w6 b 25 [vt, .slice (some ⟨g, o, none⟩) n cp]) (hl : LsIn S2 w6 v0 l) =>
      containsS (α := B) 79 [.pointer (some ⟨b, 0, none⟩)] (fun m => (fnd (X.map (·.nm)) m).isNone) (fun _ x v => v = .string (sb x) ∧ Sz x) No (fun w' => Fr No w6 w') S2 v0 l w6 (fun _ _ _ _ h _ => h) (fun _ _ _ e => e) (Fr.refl _ _) (ls_str hl) (fun _ _ => by kernel_rfl)
       (fun x _ cv wv hp hi _ => by
        obtain ⟨rfl, hz⟩ := hp
        exact (noType_any x b vt _ X wv (hb6.fr hi id) (TysIn.fr (D := No) HX.out (hf.trans' hi) (fun _ _ _ e => e)) hz).mono fun e w' ⟨h1, h2⟩ => ⟨h1, hi.trans' h2, h2⟩))
     have HM := hid (HC.out v1 c.must w5 HFW5.out HB15.out (LsIn.fr (D := No) HV1.out HFWR5.out (fun _ _ _ e => e)))
     rw [has_not] at HM
     clear hq
     go_wp2_with fail
     refine HM.out.mono ?_
     rintro e w6 ⟨rfl, -, f6⟩
     have HBK6 := hid (HBK5.out.fr f6 id)
     have HB16 := hid (HB15.out.fr f6 id)
     have HFW6 := hid (HFW5.out.trans' f6)
     have HFWR6 := hid (HFWR5.out.trans' f6)
     clear f6 c3 HBK5 HB15 HFW5 HFWR5 HM
     cases hq : has (X.map (·.nm)) c.must with
     | false =>
      obtain rfl : R = false := by have h := HT4.out; rw [hq] at h; exact h.symm
      clear hq
      go_wp2_with fail
      go_ret
      exact ⟨rfl, HFW6.out⟩
     | true =>
      have HT5 : Hid ((has (X.map (·.nm)) c.may && rCl (X.map (·.nm)) (Y.take (i + 1)) (Y.drop (i + 1))) = R) := hid (by have h := HT4.out; rw [hq] at h; exact h)
      have c4 : w6.cell? ⟨b2, 4, none⟩ = some v2 := HBK6.out.cell 4
      have HM := hid (HC.out v2 c.may w6 HFW6.out HB16.out (LsIn.fr (D := No) HV2.out HFWR6.out (fun _ _ _ e => e)))
      rw [has_not] at HM
      clear hq
      go_wp2_with fail
      refine HM.out.mono ?_
      rintro e w7 ⟨rfl, -, f7⟩
      have HFW7 := hid (HFW6.out.trans' f7)
      have HF7 := hid (HF.out.trans' (HFWR6.out.trans' f7))
      clear f7 c4 HM
      cases hq : has (X.map (·.nm)) c.may with
      | false =>
       obtain rfl : R = false := by have h := HT5.out; rw [hq] at h; exact h.symm
       clear hq
       go_wp2_with fail
       go_ret
       exact ⟨rfl, HFW7.out⟩
      | true =>
       have HT6 : Hid (rCl (X.map (·.nm)) (Y.take (i + 1)) (Y.drop (i + 1)) = R) := hid (by have h := HT5.out; rw [hq] at h; exact h)
       clear hq
       go_wp2_with fail
       refine ⟨⟨i + 1, by go_num, HLT.out, HF7, HT6⟩, ?_⟩
       have := HLT.out
       simp [intOf]; omega
  ·obtain rfl : i = n := by omega
   obtain rfl : R = true := by
    have h := HT.out
    rw [← HNN.out, List.drop_length] at h
    exact h.symm
   go_wp2_with fail
   go_ret
   exact ⟨rfl, HF1.out.trans' HF.out⟩
theorem isRight_any {S S2 : Nat → Prop} (vt vc : Value) (s : Sch) (w : World) (h : TysIn S w vt s.tys) (hy : ClsIn S2 w vc s.cls) :
  Calls Tryz.prog 17 #[.agg #[vt, vc]] w fun e w' => e = .returned (.bool (okS s)) ∧ Fr No w w' := by
 have HX := hid h; have HY := hid hy
 have HA := hid (fun w' (hf : Fr No w w') => areRightTypes_any vt s.tys w' (TysIn.fr (D := No) h hf (fun _ _ _ e => e)))
 have HC := hid (fun w' (hf : Fr No w w') => areRightClasses_any vt vc s.tys s.cls w' (TysIn.fr (D := No) h hf (fun _ _ _ e => e)) (ClsIn.fr (D := No) hy hf (fun _ _ _ e => e)))
 obtain ⟨a, cp, rfl, hcap, hl⟩ := h.form
 obtain ⟨a2, cp2, rfl, hcap2, hl2⟩ := hy.form
 obtain ⟨R, hR⟩ : ∃ R, okS s = R := ⟨_, rfl⟩
 rw [hR]
 have HR := hid hR
 obtain ⟨n, hn⟩ : ∃ n, s.tys.length = n := ⟨_, rfl⟩
 obtain ⟨m, hm⟩ : ∃ m, s.cls.length = m := ⟨_, rfl⟩
 have HNN := hid hn; have HMM := hid hm
 rw [hn] at HX HA HC hcap hl ⊢
 rw [hm] at HY HC hcap2 hl2 ⊢
 have hni : (n : Int) ≤ 140737488351232 := by omega
 have hmi : (m : Int) ≤ 140737488351232 := by omega
 have hnc : (n : Int) ≤ cp := by omega
 clear h hy hR hn hm hcap hl hcap2 hl2
 go_enter Tryz.func17, Tryz.ntmps17
 go_wp2_with (first
  | ((with_reducible refine K.atO (.box 25 _) ?_); refine wpL_box rfl _ _ rfl _ rfl [.slice a n cp, .slice a2 m cp2] rfl ?_; intro w1 HB1 HF1 HS1; refine Hid.out ?_))
 obtain ⟨b, hb⟩ : ∃ b, w.heap.size = b := ⟨_, rfl⟩
 rw [hb] at HB1 ⊢
 clear hb
 have s0 : w1.cell? ⟨b, 0, none⟩ = some (.slice a n cp) := HB1.out.cell 0
 have s1 : w1.cell? ⟨b, 1, none⟩ = some (.slice a2 m cp2) := HB1.out.cell 1
 refine hid ?_
 by_cases h0 : n = 0
 ·obtain rfl : R = false := by
   have h := HR.out
   unfold okS at h
   rw [decide_eq_false (show ¬ 1 ≤ s.tys.length by rw [HNN.out]; omega)] at h
   exact h.symm
  subst h0
  go_wp2_with fail
  go_ret
  exact ⟨rfl, HF1.out⟩
 have h0b : ((n : Int) == 0) = false := by rw [beq_eq_false_iff_ne]; omega
 by_cases h1 : 40 < n
 ·obtain rfl : R = false := by
   have h := HR.out
   unfold okS at h
   rw [decide_eq_false (show ¬ s.tys.length ≤ 40 by rw [HNN.out]; omega), Bool.and_false] at h
   exact h.symm
  have h1i : (40 : Int) < n := by omega
  go_wp2_with fail
  go_ret
  exact ⟨rfl, HF1.out⟩
 have h1b : decide ((40 : Int) < n) = false := decide_eq_false (by omega)
 by_cases h2 : 20 < m
 ·obtain rfl : R = false := by
   have h := HR.out
   unfold okS at h
   rw [decide_eq_false (show ¬ s.cls.length ≤ 20 by rw [HMM.out]; omega), Bool.and_false] at h
   exact h.symm
  have h2i : (20 : Int) < m := by omega
  go_wp2_with fail
  go_ret
  exact ⟨rfl, HF1.out⟩
 have h2b : decide ((20 : Int) < m) = false := decide_eq_false (by omega)
 have hpos : 0 < s.tys.length := by rw [HNN.out]; omega
 obtain ⟨t, r, htr⟩ : ∃ t r, s.tys = t :: r := by
  cases hs : s.tys with
  | nil => rw [hs] at hpos; simp at hpos
  | cons t r => exact ⟨t, r, rfl⟩
 have HR2 : Hid ((rFirst t && rTy [] s.tys && rCl s.tn [] s.cls) = R) := hid (by
  have h := HR.out
  unfold okS at h
  rw [decide_eq_true (show 1 ≤ s.tys.length from hpos), decide_eq_true (show s.tys.length ≤ 40 by rw [HNN.out]; omega), decide_eq_true (show s.cls.length ≤ 20 by rw [HMM.out]; omega), htr] at h
  rw [htr]
  exact h)
 obtain ⟨g, o, cq, cs, e1, -, -, hr, -, hp⟩ := (TysIn.fr (D := No) HX.out HF1.out (fun _ _ _ e => e)).get (j := 0) (x := t) (by rw [htr]; rfl)
 obtain ⟨rfl, hz⟩ := hp
 rw [HNN.out] at e1
 obtain ⟨rfl, rfl⟩ := K.sj e1
 rw [Nat.zero_mul, Nat.add_zero] at hr
 have HRR := hid hr; have HZ := hid hz
 have h0i : (0 : Int) < n := by omega
 have h0n : 0 < n := by omega
 clear h0 h1 h2 hpos htr hr hz
 go_wp2_with (first
  | ((with_reducible refine K.atO (.load 53 _) ?_); refine wpL_load rfl _ _ rfl g o rfl (tyV t) _ HRR.out rfl rfl infoTy ?_))
 refine (isRightFirst_any t HZ.out w1).mono ?_
 rintro e w2 ⟨rfl, f2⟩
 have HB2 := hid (HB1.out.fr f2 id)
 have HF2 := hid (HF1.out.trans' f2)
 clear f2 s0 s1 h0b h1b h2b h0i h0n
 cases hq : rFirst t with
 | false =>
  obtain rfl : R = false := by have h := HR2.out; rw [hq] at h; exact h.symm
  clear hq
  go_wp2_with fail
  go_ret
  exact ⟨rfl, HF2.out⟩
 | true =>
  have HR3 : Hid ((rTy [] s.tys && rCl s.tn [] s.cls) = R) := hid (by have h := HR2.out; rw [hq] at h; exact h)
  have s0 : w2.cell? ⟨b, 0, none⟩ = some (.slice (some ⟨g, o, none⟩) n cp) := HB2.out.cell 0
  clear hq
  go_wp2_with fail
  refine (HA.out w2 HF2.out).mono ?_
  rintro e w3 ⟨rfl, f3⟩
  have HB3 := hid (HB2.out.fr f3 id)
  have HF3 := hid (HF2.out.trans' f3)
  clear f3 s0
  cases hq : rTy [] s.tys with
  | false =>
   obtain rfl : R = false := by have h := HR3.out; rw [hq] at h; exact h.symm
   clear hq
   go_wp2_with fail
   go_ret
   exact ⟨rfl, HF3.out⟩
  | true =>
   have HR4 : Hid (rCl s.tn [] s.cls = R) := hid (by have h := HR3.out; rw [hq] at h; exact h)
   have HRG : Hid (w3.rangeAt b 0 [.slice (some ⟨g, o, none⟩) n cp, .slice a2 m cp2]) := hid (HB3.out.range 0 _ rfl)
   clear hq
   go_wp2_with (first
    | ((with_reducible refine K.atO (.load 25 _) ?_); refine wpL_valZ rfl (.agg #[.slice (some ⟨g, o, none⟩) n cp, .slice a2 m cp2]) (exec_load _ _ rfl b 0 rfl [.slice (some ⟨g, o, none⟩) n cp, .slice a2 m cp2] _ rfl rfl infoSc w3 HRG.out) ?_))
   refine (HC.out w3 HF3.out).mono ?_
   rintro e w4 ⟨rfl, f4⟩
   have HF4 := hid (HF3.out.trans' f4)
   have e4 : rCl (s.tys.map (·.nm)) [] s.cls = R := HR4.out
   rw [e4]
   clear f4 e4
   go_wp2_with fail
   go_ret
   exact ⟨rfl, HF4.out⟩
end Go.Proofs.YtgbiicipkbpmeaaGreatDoor.SC
