/-
  Part 33 of the proof: StCm.
-/
import Derived.Test.YtflfmkokfbgclaaGreatRc32
set_option linter.unusedSimpArgs false
set_option linter.unusedVariables false
namespace Go.Proofs.YtflfmkokfbgclaaGreat.ST
set_option maxRecDepth 100000
open Go.RowKit K L

def comS (s : Sd) (xs : List Ch) : Int × Sd := if s.br = true then (10, s) else if (encS xs).1 ≠ 0 then ((encS xs).1, s) else
  if ((areaN s.u.L.length * 64 : Nat) : Int) < lenS s.l (imgN s.l) xs then (3, s) else
  if (mrS s (L.secs (encS xs).2.length)).1 ≠ 0 then mrS s (L.secs (encS xs).2.length) else
  let q := apS (mrS s (L.secs (encS xs).2.length)).2 (encS xs).2
  if q.1 ≠ 0 then (q.1, { q.2 with br := true }) else (0, { q.2 with l := appS q.2.l xs })
theorem encS_ok {xs : List Ch} (h : (encS xs).1 = 0) : xs.all Ch.may = true ∧ xs.length ≤ 32 ∧ (encS xs).2 = recS xs ∧ (recS xs).length ≤ 2000 := by
  unfold encS at h ⊢
  split at h
  · simp at h
  · rename_i h1
    split at h
    · rename_i h2
      split at h
      · simp at h
      · rename_i h3
        rw [if_neg h1, if_pos h2, if_neg h3]
        exact ⟨h2, by omega, rfl, by omega⟩
    · simp at h
theorem opens_P {u : U} {first count e : Nat} (h : (u.opens first count e).1 = 0) (hn : (u.opens first count e).2.2 ≠ none) : (u.opens first count e).2.1.P = [] := by
  have hb : (u.begin first).1 = 0 → (u.begin first).2.1.P = [] := by
    unfold U.begin
    split
    · intro h; simp at h
    · simp only
      split
      · intro h; simp at h
      · split
        · rename_i hw; intro h; exact absurd h hw
        · exact flush_P
  unfold U.opens at hn ⊢
  simp only at hn ⊢
  split
  · rename_i hh; rw [if_pos hh] at hn; exact absurd rfl hn
  · rename_i hh; exact hb (Decidable.not_not.1 hh)
theorem replS_P {s : Sd} {nx : Rt} {img : List UInt8} (h : (replS s nx img).1 = 0) : (replS s nx img).2.u.P = [] := by
  unfold replS at h ⊢
  simp only at h ⊢
  split at h
  · rename_i hh; exact absurd h hh
  · rename_i h1
    rw [if_neg h1]
    split at h
    · rename_i hh; exact absurd h hh
    · rename_i h2
      rw [if_neg h2]
      split at h
      · rename_i hn; exact absurd h (olog_none hn)
      · rename_i g recs hs
        simp only [hs]
        unfold U.olog at hs ⊢
        refine opens_P ?_ (by rw [hs]; simp)
        unfold U.opens at hs ⊢
        simp only at hs ⊢
        split at hs
        · cases hs
        · rename_i hh; rw [if_neg hh]
theorem replS_l (s : Sd) (nx : Rt) (img : List UInt8) : (replS s nx img).2.l = s.l := by
  unfold replS
  simp only
  (repeat' split) <;> rfl
theorem ckS_l (s : Sd) : (ckS s).2.l = s.l := by
  unfold ckS
  split
  · rfl
  · split <;> exact replS_l _ _ _
theorem mrS_l (s : Sd) (n : Int) : (mrS s n).2.l = s.l := by
  unfold mrS
  split
  · rfl
  · split
    · exact ckS_l s
    · split <;> exact ckS_l s
theorem ckS_P {s : Sd} (h : (ckS s).1 = 0) : (ckS s).2.u.P = [] := by
  unfold ckS at h ⊢
  split at h
  · simp at h
  · rename_i hb
    rw [if_neg hb]
    split at h
    · rename_i hh; exact absurd h hh
    · rename_i hh
      rw [if_neg hh]
      exact replS_P (Decidable.not_not.1 hh)
theorem mrS_P {s : Sd} {n : Int} (h : (mrS s n).1 = 0) : (mrS s n).2.u.P.length ≤ s.u.P.length := by
  unfold mrS at h ⊢
  split at h
  · rename_i hh; rw [if_pos hh]; exact Nat.le_refl _
  · rename_i hh
    rw [if_neg hh]
    split at h
    · rename_i h2; exact absurd h h2
    · rename_i h2
      rw [if_neg h2]
      have hp := ckS_P (Decidable.not_not.1 h2)
      split at h
      · simp at h
      · rename_i h3
        rw [if_neg h3]
        show (ckS s).2.u.P.length ≤ _
        rw [hp]
        exact Nat.zero_le _
theorem apS_l (s : Sd) (x : List UInt8) : (apS s x).2.l = s.l := by unfold apS; split <;> rfl
section
variable {W w w' : World} {b bd bg bt : Nat} {O Z : Nat → Prop} {T T' : TR.TD} {s : Sd} {l' : TR.L}
theorem StM.tree (h : StM W w b bd bg bt Z T s) (hc : Ct W w' b 2 68 (stC bd (pt bg) (pt bt) 0 s.r s.br) bt T' l') (f : Fr (fun k => T.fp k ∨ k = b) w w') (ht : ∀ k, T'.fp k → T.fp k ∨ w.heap.size ≤ k) : StM W w' b bd bg bt Z T' { s with l := l' } where
  a := h.a.fr f (fun k hk e => e.elim (h.z k hk).1 (h.z k hk).2) (fun e => e.elim h.g h.n)
  c := hc
  g := fun e => (ht _ e).elim h.g (fun hge => by have := h.a.2.1.lt; omega)
  n := h.n
  z := fun k hk => ⟨fun e => (ht k e).elim (h.z k hk).1 (fun hge => by have := h.a.1.lt k hk; omega), (h.z k hk).2⟩
theorem hentLA (vs : Array Value) (w : World) : (callFunc 35 vs).run Tryz.prog w = .ok (.enter 35 vs) w := by kernel_rfl
set_option maxHeartbeats 16000000 in
theorem commit_any (v : Value) (xs : List Ch) (E : Nat → Prop) (h : Sto W w b bd O s) (hx : ChIn w E v xs) (hcap : ∃ a c, v = .slice a xs.length c ∧ xs.length ≤ c) (hE : ∀ k, E k → ¬ O k ∧ k < w.heap.size)
    (hsz : ∀ x ∈ xs, x.key.size ≤ 140737488351232 ∧ x.value.size ≤ 140737488351232) (hlen : xs.length ≤ 140737488351232) (hp : s.u.P.length < 400000) (hi : imgN s.l ≤ 500000) (hl : s.l.length ≤ 100000) :
    Calls Tryz.prog 15 #[pt b, v] w (StP W w b bd O (comS s xs)) := by
  have H := hid h; have HX := hid hx; have HE := hid hE; have HP := hid hp; have HI := hid hi; have HL := hid hl
  have HEN := hid (encode_any v xs E)
  have HSZ := hid hsz; have HLEN := hid hlen
  obtain ⟨c8, -⟩ := h.cell8
  obtain ⟨R, hR⟩ : ∃ R, comS s xs = R := ⟨_, rfl⟩
  have HRE := hid hR
  rw [hR]
  obtain ⟨a, c, rfl, hcc⟩ := hcap
  have HCC := hid hcc
  clear h hx hE hp hi hl hR hsz hlen hcc
  cases hbr : s.br with
  | true =>
    rw [hbr] at c8
    have HRF : Hid (R = (10, s)) := hid (by rw [← HRE.out]; unfold comS; rw [if_pos hbr])
    clear hbr
    go_enter Tryz.func15, Tryz.ntmps15
    go_wp2_with fail
    go_ret
    rw [HRF.out]
    exact ⟨rfl, O, H.out, Fr.refl _ _, fun _ h => .inl h⟩
  | false =>
    rw [hbr] at c8
    have HR1 : Hid ((if (encS xs).1 ≠ 0 then ((encS xs).1, s) else
      if ((areaN s.u.L.length * 64 : Nat) : Int) < lenS s.l (imgN s.l) xs then (3, s) else
      if (mrS s (L.secs (encS xs).2.length)).1 ≠ 0 then mrS s (L.secs (encS xs).2.length) else
      let q := apS (mrS s (L.secs (encS xs).2.length)).2 (encS xs).2
      if q.1 ≠ 0 then (q.1, { q.2 with br := true }) else (0, { q.2 with l := appS q.2.l xs })) = R) := hid (by have h := HRE.out; unfold comS at h; rw [if_neg (by rw [hbr]; decide)] at h; exact h)
    clear hbr
    go_enter Tryz.func15, Tryz.ntmps15
    go_wp2_with fail
    refine (HEN.out w HX.out HSZ.out HLEN.out).mono ?_
    rintro e w1 ⟨rfl, f1⟩
    have HF1 := hid f1
    obtain ⟨p, hp⟩ : ∃ p, encS xs = p := ⟨_, rfl⟩
    have HOK := hid (fun (h : (encS xs).1 = 0) => encS_ok h)
    rw [hp] at HR1 HOK ⊢
    obtain ⟨ce, x⟩ := p
    simp only at HR1 HOK ⊢
    clear f1 hp HRE c8
    by_cases hce : ce = 0
    · subst hce
      have HR2 : Hid ((if ((areaN s.u.L.length * 64 : Nat) : Int) < lenS s.l (imgN s.l) xs then (3, s) else
        if (mrS s (L.secs x.length)).1 ≠ 0 then mrS s (L.secs x.length) else
        let q := apS (mrS s (L.secs x.length)).2 x
        if q.1 ≠ 0 then (q.1, { q.2 with br := true }) else (0, { q.2 with l := appS q.2.l xs })) = R) := hid (by have h := HR1.out; rw [if_neg (by simp)] at h; exact h)
      obtain ⟨hm, h32, hxr, hx2⟩ := HOK.out rfl
      have HMAY : Hid (∀ y ∈ xs, y.key.size ≤ 64 ∧ y.value.size ≤ 400) := hid (fun y hy => ⟨(may_sizes (List.all_eq_true.1 hm y hy)).1, (may_sizes (List.all_eq_true.1 hm y hy)).2.1⟩)
      have H32 := hid h32
      have HXL : Hid (x.length ≤ 2000) := hid (by rw [hxr]; exact hx2)
      have HS1 := hid (H.out.no HF1.out)
      obtain ⟨bg, bt, Z, T, hM, hO⟩ := HS1.out.split
      have HM := hid (hM.no ((Fr.refl No w1).drew))
      have hv := HM.out.c.blk.range 0 [pt bd] rfl
      have HX1 := hid (HX.out.fr HF1.out.drew (fun _ _ _ e => e))
      obtain ⟨t, ht⟩ : ∃ t : S, ByteArray.mk x.toArray = t := ⟨_, rfl⟩
      have HTZ : Hid (t.size = x.length) := hid (by rw [← ht]; show x.toArray.size = _; simp)
      have HTD : Hid (t.data.toList = x) := hid (by rw [← ht])
      rw [show L.str x = Value.string t from congrArg Value.string ht]
      clear hM hO hm h32 hxr hx2 HR1 HOK ht
      go_wp2_with fail
      have hold : Facts.hold [(8, fun w' => w'.rangeAt b 0 [pt bd])] w1.drew := Facts.cons_hold hv (Facts.nil_hold _)
      refine wpD_region hold (by kernel_rfl) 11 rfl ?_
      (refine wpD_plain 0 (v := ?_) rfl (by kernel_rfl) (by kernel_rfl) (by kernel_rfl) (fun _ _ _ h => h) (by rfl) ?_ (by assumption) ?_; rotate_left; (intro _w; go_simp; try with_reducible rfl); simp only [Act.put, List.setIfInBounds_toArray, List.set_cons_zero, List.set_cons_succ])
      (refine wpD_plain 1 (v := ?_) rfl (by kernel_rfl) (by kernel_rfl) (by kernel_rfl) (fun _ _ _ h => h) (by rfl) ?_ (by assumption) ?_; rotate_left; (intro _w; go_simp; try with_reducible rfl); simp only [Act.put, List.setIfInBounds_toArray, List.set_cons_zero, List.set_cons_succ])
      (refine wpD_plain 2 (v := ?_) rfl (by kernel_rfl) (by kernel_rfl) (by kernel_rfl) (fun _ _ _ h => h) (by rfl) ?_ (by assumption) ?_; rotate_left; (intro _w; go_simp; try with_reducible rfl); simp only [Act.put, List.setIfInBounds_toArray, List.set_cons_zero, List.set_cons_succ])
      (refine wpD_plain 3 (v := ?_) rfl (by kernel_rfl) (by kernel_rfl) (by kernel_rfl) (fun _ _ _ h => h) (by rfl) ?_ (by assumption) ?_; rotate_left; (intro _w; go_simp; try with_reducible rfl); simp only [Act.put, List.setIfInBounds_toArray, List.set_cons_zero, List.set_cons_succ])
      (refine wpD_plain 5 (v := ?_) rfl (by kernel_rfl) (by kernel_rfl) (by kernel_rfl) (fun _ _ _ h => h) (by rfl) ?_ (by assumption) ?_; rotate_left; (intro _w; go_simp; try with_reducible rfl); simp only [Act.put, List.setIfInBounds_toArray, List.set_cons_zero, List.set_cons_succ])
      (refine wpD_plain 6 (v := ?_) rfl (by kernel_rfl) (by kernel_rfl) (by kernel_rfl) (fun _ _ _ h => h) (by rfl) ?_ (by assumption) ?_; rotate_left; (intro _w; go_simp; try with_reducible rfl); simp only [Act.put, List.setIfInBounds_toArray, List.set_cons_zero, List.set_cons_succ])
      (refine wpD_plain 7 (v := ?_) rfl (by kernel_rfl) (by kernel_rfl) (by kernel_rfl) (fun _ _ _ h => h) (by rfl) ?_ (by assumption) ?_; rotate_left; (intro _w; go_simp; try with_reducible rfl); simp only [Act.put, List.setIfInBounds_toArray, List.set_cons_zero, List.set_cons_succ])
      (refine wpD_take 8 _ rfl (by kernel_rfl) (by kernel_rfl) (by kernel_rfl) (fun _ _ _ h => h) List.mem_cons_self (by rfl) (exec_load _ _ rfl b 0 rfl _ _ rfl rfl infoVol) (by assumption) ?_; simp only [Act.put, List.setIfInBounds_toArray, List.set_cons_zero, List.set_cons_succ])
      clear hold hv
      refine wpD_only 4 [(8, fun w' => w'.rangeAt b 0 [pt bd])] rfl (by kernel_rfl) (by kernel_rfl) (by rfl) (fun K4 hK4 => ?_)
      refine wp_call (.func 35) _ _ rfl 35 [] rfl hentLA [.pointer (some ⟨b, 2, none⟩), .slice a xs.length c] (by rfl) ?_
      refine (lengthAfter_any W w1.drew b 2 _ _ bt T s.l a c xs E HM.out.c HX1.out HCC.out HMAY.out (by have := HL.out; have := H32.out; omega)).mono ?_
      rintro e w2 ⟨rfl, f2⟩
      have hold : Facts.hold [(8, fun w' => w'.rangeAt b 0 [pt bd])] w2 := Facts.cons_hold ((HM.out.no f2).c.blk.range 0 [pt bd] rfl) (Facts.nil_hold _)
      refine ⟨_, rfl, hK4 _ _ hold ?_⟩
      clear hK4 K4
      have HM2 := hid (HM.out.no f2)
      have HF2 : Hid (Fr No w w2) := hid (HF1.out.drew.trans' f2)
      obtain ⟨n0, hn0⟩ : ∃ n, lenS s.l (imgN s.l) xs = n := ⟨_, rfl⟩
      rw [hn0] at HR2 ⊢
      clear f2 hn0 HM
      simp only [Act.put, List.setIfInBounds_toArray, List.set_cons_zero, List.set_cons_succ]
      clear hold
      refine wpD_only 9 [] rfl (by kernel_rfl) (by kernel_rfl) (by rfl) (fun K9 hK9 => ?_)
      refine wp_call (.func 36) _ _ rfl 36 [] rfl hentCap [vol bd] (by rfl) ?_
      refine (capacity_any HM2.out.a.1).mono ?_
      rintro e w3 ⟨rfl, f3⟩
      obtain ⟨cp, hcp⟩ : ∃ n : Int, ((areaN s.u.L.length * 64 : Nat) : Int) = n := ⟨_, rfl⟩
      rw [hcp] at HR2 ⊢
      have hold : Facts.hold [] w3 := Facts.nil_hold _
      refine ⟨_, rfl, hK9 _ _ hold ?_⟩
      clear hK9 K9
      have HF3 : Hid (Fr No w w3) := hid (HF2.out.trans' f3)
      have HS3 := hid (H.out.no HF3.out)
      have HX3 := hid (HX.out.fr HF3.out (fun _ _ _ e => e))
      clear f3 hcp HM2 HX1
      simp only [Act.put, List.setIfInBounds_toArray, List.set_cons_zero, List.set_cons_succ]
      by_cases hgt : cp < n0
      · have HRF : Hid (R = (3, s)) := hid (by have h := HR2.out; rw [if_pos hgt] at h; exact h.symm)
        (refine wpD_plain 10 (v := (.bool true)) rfl (by kernel_rfl) (by kernel_rfl) (by kernel_rfl) (fun _ _ _ h => h) (by rfl) ?_ (by assumption) ?_; (intro _w; go_simp; skip); simp only [Act.put, List.setIfInBounds_toArray, List.set_cons_zero, List.set_cons_succ])
        refine wpD_done (by kernel_rfl) ?_ _
        clear hold
        go_wp2_with fail
        go_ret
        rw [HRF.out]
        exact ⟨rfl, O, HS3.out, HF3.out.no, fun _ h => .inl h⟩
      · have HR3 : Hid ((if (mrS s (L.secs x.length)).1 ≠ 0 then mrS s (L.secs x.length) else
          let q := apS (mrS s (L.secs x.length)).2 x
          if q.1 ≠ 0 then (q.1, { q.2 with br := true }) else (0, { q.2 with l := appS q.2.l xs })) = R) := hid (by have h := HR2.out; rw [if_neg hgt] at h; exact h)
        (refine wpD_plain 10 (v := (.bool false)) rfl (by kernel_rfl) (by kernel_rfl) (by kernel_rfl) (fun _ _ _ h => h) (by rfl) ?_ (by assumption) ?_; (intro _w; go_simp; skip); simp only [Act.put, List.setIfInBounds_toArray, List.set_cons_zero, List.set_cons_succ])
        refine wpD_done (by kernel_rfl) ?_ _
        clear hold hgt
        have hti : (t.size : Int) ≤ 2000 := by have := HTZ.out; have := HXL.out; omega
        go_wp2_with fail
        refine (L.sectors_any (t.size : Int) w3 (by omega) (by omega)).mono ?_
        rintro e w' ⟨rfl, rfl⟩
        rw [HTZ.out]
        obtain ⟨ns, hns⟩ : ∃ n, L.secs (x.length : Int) = n := ⟨_, rfl⟩
        rw [hns] at HR3 ⊢
        clear hns HR2 hti
        go_wp2_with fail
        refine (makeRoom_any ns HS3.out HP.out HI.out HL.out).mono ?_
        rintro e w4 ⟨rfl, O4, hS4, hF4, hG4⟩
        obtain ⟨p, hp⟩ : ∃ p, mrS s ns = p := ⟨_, rfl⟩
        have HPP : Hid (p.1 = 0 → p.2.u.P.length ≤ s.u.P.length) := hid (by rw [← hp]; exact mrS_P)
        have HPL : Hid (p.2.l = s.l) := hid (by rw [← hp]; exact mrS_l _ _)
        rw [hp] at hS4 HR3 ⊢
        obtain ⟨c4, s4⟩ := p
        simp only at hS4 HR3 HPP HPL ⊢
        have HS4 := hid hS4
        have HF4 : Hid (Fr O w w4) := hid (HF3.out.no.trans' hF4)
        have HG4 : Hid (Grows w O O4) := hid (fun k hk => (hG4 k hk).imp id (fun hge => by have := HF3.out.size; omega))
        clear hS4 hF4 hG4 hp
        by_cases hc4 : c4 = 0
        · have HR4 : Hid ((if (apS s4 x).1 ≠ 0 then ((apS s4 x).1, { (apS s4 x).2 with br := true }) else (0, { (apS s4 x).2 with l := appS (apS s4 x).2.l xs })) = R) := hid (by have h := HR3.out; rw [if_neg (by simp [hc4])] at h; exact h)
          have HPQ := hid (HPP.out hc4)
          subst hc4
          go_wp2_with fail
          refine (appendDurably_any t HS4.out (by have := HPQ.out; have := HP.out; omega) (by have := HTZ.out; have := HXL.out; omega)).mono ?_
          rintro e w5 ⟨rfl, O5, hS5, hF5, hG5⟩
          rw [HTD.out] at hS5 ⊢
          obtain ⟨q, hq⟩ : ∃ q, apS s4 x = q := ⟨_, rfl⟩
          have HQL : Hid (q.2.l = s.l) := hid (by rw [← hq, apS_l]; exact HPL.out)
          rw [hq] at hS5 HR4 ⊢
          obtain ⟨c5, s5⟩ := q
          simp only at hS5 HR4 HQL ⊢
          have HS5 := hid hS5
          have HF5 : Hid (Fr O w w5) := hid (HF4.out.trans hF5 HG4.out)
          have HG5 : Hid (Grows w O O5) := hid (fun k hk => (hG5 k hk).elim (HG4.out k) (fun hge => .inr (by have := HF4.out.size; omega)))
          clear hS5 hF5 hG5 hq
          by_cases hc5 : c5 = 0
          · have HRF : Hid (R = (0, { s5 with l := appS s5.l xs })) := hid (by have h := HR4.out; rw [if_neg (by simp [hc5])] at h; exact h.symm)
            subst hc5
            obtain ⟨bg5, bt5, Z5, T5, hM5, hO5⟩ := HS5.out.split
            have HM5 := hid hM5; have HO5 := hid hO5
            have HX5 := hid (HX.out.fr HF5.out (fun k hk _ e => (HE.out k hk).1 e))
            clear hM5 hO5
            go_wp2_with fail
            refine (apply_any W w5 b 2 _ _ bt5 T5 s5.l _ xs E HM5.out.c HX5.out (fun k hk => ⟨fun hf => ?_, fun e => ?_⟩) HMAY.out (by rw [HQL.out]; have := HL.out; have := H32.out; omega)).mono ?_
            · rcases HG5.out k (HO5.out k (.inr (.inl hf))) with h | h
              · exact (HE.out k hk).1 h
              · have := (HE.out k hk).2; omega
            · rcases HG5.out k (HO5.out k (.inr (.inr (.inl e)))) with h | h
              · exact (HE.out k hk).1 h
              · have := (HE.out k hk).2; omega
            rintro e w6 ⟨rfl, T6, hC6, hF6, hT6⟩
            have HM6 := hid (HM5.out.tree hC6 hF6 hT6)
            have HF6 := hid hF6; have HT6 := hid hT6
            clear hC6 hF6 hT6
            go_wp2_with fail
            go_ret
            rw [HRF.out]
            have hbg := HS5.out.ow bg5 (HO5.out bg5 (.inr (.inr (.inr rfl))))
            refine ⟨rfl, _, HM6.out.sto (fun k hk => (HS5.out.ow k (HO5.out k (.inl hk))).1) hbg.1 HS5.out.area HS5.out.rok HS5.out.big, ?_, ?_⟩
            · refine HF5.out.trans HF6.out (fun k hk => ?_)
              rcases hk with hk | hk
              · exact HG5.out k (HO5.out k (.inr (.inl hk)))
              · exact HG5.out k (HO5.out k (.inr (.inr (.inl hk))))
            · rintro k (hk | hk | hk | hk)
              · exact HG5.out k (HO5.out k (.inl hk))
              · rcases HT6.out k hk with h | h
                · exact HG5.out k (HO5.out k (.inr (.inl h)))
                · exact .inr (by have := HF5.out.size; omega)
              · exact HG5.out k (HO5.out k (.inr (.inr (.inl hk))))
              · exact HG5.out k (HO5.out k (.inr (.inr (.inr hk))))
          · have HRF : Hid (R = (c5, { s5 with br := true })) := hid (by have h := HR4.out; rw [if_pos hc5] at h; exact h.symm)
            obtain ⟨g8, z8⟩ := HS5.out.cell8
            go_wp2_with fail
            go_ret
            rw [HRF.out]
            exact ⟨rfl, O5, HS5.out.brk, HF5.out.setCell _ _ ((HG5.out b HS5.out.own).imp id id), HG5.out⟩
        · have HRF : Hid (R = (c4, s4)) := hid (by have h := HR3.out; rw [if_pos hc4] at h; exact h.symm)
          go_wp2_with fail
          go_ret
          rw [HRF.out]
          exact ⟨rfl, O4, HS4.out, HF4.out, HG4.out⟩
    · have HRF : Hid (R = (ce, s)) := hid (by have h := HR1.out; rw [if_pos hce] at h; exact h.symm)
      go_wp2_with fail
      go_ret
      rw [HRF.out]
      exact ⟨rfl, O, H.out.no HF1.out, HF1.out.no, fun _ h => .inl h⟩
end
end Go.Proofs.YtflfmkokfbgclaaGreat.ST
