/-
  Part 32 of the proof: StRp, StCk, StMr.
-/
import Derived.Test.YtflfmkokfbgclaaGreatRc31
set_option linter.unusedSimpArgs false
set_option linter.unusedVariables false
namespace Go.Proofs.YtflfmkokfbgclaaGreat.ST
set_option maxRecDepth 100000
open Go.RowKit K L

structure StM (W w : World) (b bd bg bt : Nat) (Z : Nat → Prop) (T : TR.TD) (s : Sd) : Prop where
  a : L.At w bg bd Z s.g s.u
  c : Ct W w b 2 68 (stC bd (pt bg) (pt bt) 0 s.r s.br) bt T s.l
  g : ¬ T.fp bg
  n : bg ≠ b
  z : ∀ k, Z k → ¬ T.fp k ∧ k ≠ b
theorem Sto.split {W w : World} {b bd : Nat} {O : Nat → Prop} {s : Sd} (h : Sto W w b bd O s) : ∃ bg bt Z T, StM W w b bd bg bt Z T s ∧ ∀ k, Z k ∨ T.fp k ∨ k = b ∨ k = bg → O k := by
  obtain ⟨bg, bt, Z, T, h1, h2, h3, h4, h5, h6⟩ := h.mem
  exact ⟨bg, bt, Z, T, ⟨h1, h2, h3, h4, h5⟩, h6⟩
section
variable {W w w' : World} {b bd bg bt : Nat} {Z Z' : Nat → Prop} {T : TR.TD} {s : Sd} {u' : U}
theorem StM.sto (h : StM W w b bd bg bt Z T s) (hz : ∀ k, Z k → W.heap.size ≤ k) (hg : W.heap.size ≤ bg) (ha : s.r.area ≤ 1) (hr : s.r.Ok) (hb : 32 ≤ s.u.L.length) : Sto W w b bd (fun k => Z k ∨ T.fp k ∨ k = b ∨ k = bg) s :=
  ⟨⟨bg, bt, Z, T, h.a, h.c, h.g, h.n, h.z, fun _ hk => hk⟩, by
    rintro k (hk | hk | rfl | rfl)
    · exact ⟨hz k hk, h.a.1.lt k hk⟩
    · exact ⟨h.c.t.ge k hk, h.c.t.at_.lt k hk⟩
    · exact ⟨h.c.bw, h.c.blk.lt⟩
    · exact ⟨hg, h.a.2.1.lt⟩, ha, hr, hb⟩
theorem Ct.fr {W w w' : World} {b o : Nat} {tb : TypeId} {cs : List Value} {bt : Nat} {T : TR.TD} {l : TR.L} {E : Nat → Prop} (h : Ct W w b o tb cs bt T l) (f : Fr E w w') (hE : ∀ k, E k → ¬ T.fp k ∧ k ≠ b ∧ W.heap.size ≤ k) : Ct W w' b o tb cs bt T l :=
  ⟨⟨h.t.b, h.t.at_.fr f (fun k hk e => (hE k e).1 hk), h.t.fr.trans f (fun k hk => .inr (hE k hk).2.2), h.t.ge⟩, h.blk.fr f (fun e => (hE b e).2.1 rfl), h.c0, h.c1, h.nb, h.bw, h.m⟩
theorem StM.no (h : StM W w b bd bg bt Z T s) (f : Fr No w w') : StM W w' b bd bg bt Z T s := ⟨h.a.no f, h.c.no f, h.g, h.n, h.z⟩
theorem StM.disk (h : StM W w b bd bg bt Z T s) (hZW : ∀ k, Z k → W.heap.size ≤ k) (hd : Dk w' bd Z' u') (f : Fr Z w w') (hg : Grows w Z Z') (hl : u'.L.length = s.u.L.length) : StM W w' b bd bg bt Z' T { s with u := u' } where
  a := ⟨hd, h.a.2.1.fr f h.a.2.2.1, fun e => (hg bg e).elim h.a.2.2.1 (fun hge => by have := h.a.2.1.lt; omega), by rw [hl]; exact h.a.2.2.2⟩
  c := h.c.fr f (fun k hk => ⟨(h.z k hk).1, (h.z k hk).2, hZW k hk⟩)
  g := h.g
  n := h.n
  z := fun k hk => by
    rcases hg k hk with h1 | h1
    · exact h.z k h1
    · refine ⟨fun e => ?_, fun e => ?_⟩
      · have := h.c.t.at_.lt k e; omega
      · have := h.c.blk.lt; omega
end
/-- What replace does. -/
def replS (s : Sd) (nx : Rt) (img : List UInt8) : Int × Sd :=
  let a := U.wimage s.u (1 + nx.area * areaN s.u.L.length) img
  if a.1 ≠ 0 then (a.1, { s with u := a.2 }) else
  let c := U.wroot a.2 nx
  if c.1 ≠ 0 then (c.1, { s with u := c.2 }) else
  match (U.olog c.2 nx.epoch).2.2 with
  | none => ((U.olog c.2 nx.epoch).1, { s with u := (U.olog c.2 nx.epoch).2.1 })
  | some (g, _) => (0, { s with u := (U.olog c.2 nx.epoch).2.1, r := nx, g := g })
theorem wimg_L : ∀ (k : Nat) (u : U) (s : Nat) (l : List UInt8), (U.wimg k u s l).2.L.length = u.L.length
  | 0, _, _, _ => rfl
  | k + 1, u, s, l => by
    unfold U.wimg
    split
    · exact flush_L u
    · split
      · rw [wimg_L k]; simp
      · simp
theorem flush_P {u : U} (h : u.flush.1 = 0) : u.flush.2.P = [] := by
  unfold U.flush at h ⊢
  split at h
  · simp at h
  · rename_i hu
    rw [if_neg hu]
    split at h
    · simp at h
    · rename_i hs; rw [if_neg hs]
theorem wimg_P : ∀ (k : Nat) (u : U) (s : Nat) (l : List UInt8), l.length < k → (U.wimg k u s l).1 = 0 → (U.wimg k u s l).2.P = []
  | 0, _, _, _, h, _ => by omega
  | k + 1, u, s, l, hk, h => by
    unfold U.wimg at h ⊢
    by_cases hl : l = []
    · rw [if_pos hl] at h ⊢; exact flush_P h
    · rw [if_neg hl] at h ⊢
      by_cases hw : (u.write s (l.take 64)).1 = 0
      · rw [if_pos hw] at h ⊢
        refine wimg_P k _ _ _ ?_ h
        have : 0 < l.length := List.length_pos_iff.2 hl
        simp; omega
      · rw [if_neg hw] at h; exact absurd h hw
theorem wroot_L (u : U) (r : Rt) : (U.wroot u r).2.L.length = u.L.length := by
  unfold U.wroot; split <;> simp
theorem wroot_P {u : U} {r : Rt} (h : (U.wroot u r).1 = 0) : (U.wroot u r).2.P = [] := by
  unfold U.wroot at h ⊢
  split at h
  · rename_i hh; rw [if_pos hh]; exact flush_P h
  · rename_i hh; exact absurd h hh
theorem hentWI (vs : Array Value) (w : World) : (callFunc 64 vs).run Tryz.prog w = .ok (.enter 64 vs) w := by kernel_rfl
theorem hentWR (vs : Array Value) (w : World) : (callFunc 65 vs).run Tryz.prog w = .ok (.enter 65 vs) w := by kernel_rfl
/-- A call on a store, told as data. -/
def StP (W w : World) (b bd : Nat) (O : Nat → Prop) (p : Int × Sd) (e : Ending) (w' : World) : Prop :=
  e = .returned (.int .i64 p.1) ∧ ∃ O', Sto W w' b bd O' p.2 ∧ Fr O w w' ∧ Grows w O O'
section
variable {W w : World} {b bd : Nat} {O : Nat → Prop} {s : Sd}
theorem frO {Z : Nat → Prop} {w w' : World} (h : Fr Z w w') (hz : ∀ k, Z k → O k) : Fr O w w' := ⟨h.os, h.tape, h.output, h.size, fun k hk hn => h.block k hk (fun e => hn (hz k e))⟩
set_option maxHeartbeats 16000000 in
theorem replace_any (nx : Rt) (t : S) (h : Sto W w b bd O s) (hp : s.u.P.length < 400000) (ha : nx.area ≤ 1) (hr : nx.Ok) (ht : t.size ≤ 500000) :
    Calls Tryz.prog 45 #[pt b, .agg nx.cells.toArray, .string t] w (StP W w b bd O (replS s nx t.data.toList)) := by
  obtain ⟨bg, bt, Z, T, hM, hO⟩ := h.split
  have H := hid h; have HM := hid hM; have HO := hid hO
  have HP := hid hp; have HA := hid ha; have HR := hid hr; have HT := hid ht
  have HZW := hid (fun k (hk : Z k) => (h.ow k (hO k (.inl hk))).1)
  have HZL := hid hM.a.1.lt
  have HBW := hid (And.intro (h.ow b (hO b (.inr (.inr (.inl rfl))))) (h.ow bg (hO bg (.inr (.inr (.inr rfl))))))
  obtain ⟨R, hR⟩ : ∃ R, replS s nx t.data.toList = R := ⟨_, rfl⟩
  have HRE := hid hR
  rw [hR]
  have HNX := hid (rfl : nx = nx)
  clear h hM hO hp ha hr ht hR
  go_enter Tryz.func45, Tryz.ntmps45
  go_wp2_with (first
    | ((with_reducible show wpList _ _ _ (⟨_, .box 66 _, _, _, _, _⟩ :: _) _ _); refine wpL_box rfl _ _ rfl _ rfl nx.cells rfl ?_; intro w1 HB1 F1 HS1)
    | fail)
  obtain ⟨bq, hbq⟩ : ∃ k, w.heap.size = k := ⟨_, rfl⟩
  have HBQ := hid hbq
  rw [hbq] at HB1 ⊢
  have HQ1 := hid HB1.out.drew
  have HF1 := hid F1.out.drew
  have HM1 := hid (HM.out.no F1.out.drew)
  clear hbq
  have hv := HM1.out.c.blk.range 0 [pt bd] rfl
  have q0 : w1.cell? ⟨bq, 0, none⟩ = some (.int .i64 (nx.area : Int)) := HQ1.out.cell 0
  have hold : Facts.hold [(3, fun w' => w'.rangeAt b 0 [pt bd]), (5, fun w' => w'.cell? ⟨bq, 0, none⟩ = some (.int .i64 (nx.area : Int)))] w1.drew := Facts.cons_hold hv (Facts.cons_hold q0 (Facts.nil_hold _))
  clear HB1 F1
  refine wpD_region hold (by kernel_rfl) 9 rfl ?_
  (refine wpD_plain 0 (v := ?_) rfl (by kernel_rfl) (by kernel_rfl) (by kernel_rfl) (fun _ _ _ h => h) (by rfl) ?_ (by assumption) ?_; rotate_left; (intro _w; go_simp; try with_reducible rfl); simp only [Act.put, List.setIfInBounds_toArray, List.set_cons_zero, List.set_cons_succ])
  (refine wpD_plain 1 (v := ?_) rfl (by kernel_rfl) (by kernel_rfl) (by kernel_rfl) (fun _ _ _ h => h) (by rfl) ?_ (by assumption) ?_; rotate_left; (intro _w; go_simp; try with_reducible rfl); simp only [Act.put, List.setIfInBounds_toArray, List.set_cons_zero, List.set_cons_succ])
  (refine wpD_plain 2 (v := ?_) rfl (by kernel_rfl) (by kernel_rfl) (by kernel_rfl) (fun _ _ _ h => h) (by rfl) ?_ (by assumption) ?_; rotate_left; (intro _w; go_simp; try with_reducible rfl); simp only [Act.put, List.setIfInBounds_toArray, List.set_cons_zero, List.set_cons_succ])
  (refine wpD_take 3 _ rfl (by kernel_rfl) (by kernel_rfl) (by kernel_rfl) (fun _ _ _ h => h) List.mem_cons_self (by rfl) (exec_load _ _ rfl b 0 rfl _ _ rfl rfl infoVol) (by assumption) ?_; simp only [Act.put, List.setIfInBounds_toArray, List.set_cons_zero, List.set_cons_succ])
  (refine wpD_plain 4 (v := ?_) rfl (by kernel_rfl) (by kernel_rfl) (by kernel_rfl) (fun _ _ _ h => h) (by rfl) ?_ (by assumption) ?_; rotate_left; (intro _w; go_simp; try with_reducible rfl); simp only [Act.put, List.setIfInBounds_toArray, List.set_cons_zero, List.set_cons_succ])
  (refine wpD_take 5 _ rfl (by kernel_rfl) (by kernel_rfl) (by kernel_rfl) (fun _ _ _ h => h) (List.mem_cons_of_mem _ List.mem_cons_self) (by rfl) (v := ?_) ?_ (by assumption) ?_; rotate_left; (intro _w _hw; go_simp; try with_reducible rfl); simp only [Act.put, List.setIfInBounds_toArray, List.set_cons_zero, List.set_cons_succ])
  (refine wpD_plain 6 (v := ?_) rfl (by kernel_rfl) (by kernel_rfl) (by kernel_rfl) (fun _ _ _ h => h) (by rfl) ?_ (by assumption) ?_; rotate_left; (intro _w; go_simp; try with_reducible rfl); simp only [Act.put, List.setIfInBounds_toArray, List.set_cons_zero, List.set_cons_succ])
  clear hold hv q0
  refine wpD_only 7 [] rfl (by kernel_rfl) (by kernel_rfl) (by rfl) (fun K7 hK7 => ?_)
  refine wp_call (.func 64) _ _ rfl 64 [] rfl hentWI [vol bd, .int .i64 (nx.area : Int), .string t] (by rfl) ?_
  refine (writeImage_any nx.area t (by have := HA.out; omega) HT.out HM1.out.a.1 HP.out).mono ?_
  rintro e w2 ⟨rfl, Z2, hd2, hf2, hg2⟩
  have hold : Facts.hold [] w2 := Facts.nil_hold _
  refine ⟨_, rfl, hK7 _ _ hold ?_⟩
  clear hK7 K7
  simp only [Act.put, List.setIfInBounds_toArray, List.set_cons_zero, List.set_cons_succ]
  (refine wpD_plain 8 (v := ?_) rfl (by kernel_rfl) (by kernel_rfl) (by kernel_rfl) (fun _ _ _ h => h) (by rfl) ?_ (by assumption) ?_; rotate_left; (intro _w; go_simp; try with_reducible rfl); simp only [Act.put, List.setIfInBounds_toArray, List.set_cons_zero, List.set_cons_succ])
  refine wpD_done (by kernel_rfl) ?_ _
  clear hold
  obtain ⟨p, hp⟩ : ∃ p, U.wimage s.u (1 + nx.area * areaN s.u.L.length) t.data.toList = p := ⟨_, rfl⟩
  have HPL : Hid (p.2.L.length = s.u.L.length ∧ (p.1 = 0 → p.2.P = [])) := hid (by rw [← hp]; exact ⟨wimg_L _ _ _ _, wimg_P _ _ _ _ (Nat.lt_succ_self _)⟩)
  rw [hp] at hd2 ⊢
  have HRE2 : Hid ((if p.1 ≠ 0 then (p.1, { s with u := p.2 }) else
    let c := U.wroot p.2 nx
    if c.1 ≠ 0 then (c.1, { s with u := c.2 }) else
    match (U.olog c.2 nx.epoch).2.2 with
    | none => ((U.olog c.2 nx.epoch).1, { s with u := (U.olog c.2 nx.epoch).2.1 })
    | some (g, _) => (0, { s with u := (U.olog c.2 nx.epoch).2.1, r := nx, g := g })) = R) := hid (by have h := HRE.out; unfold replS at h; rw [hp] at h; exact h)
  obtain ⟨c2, u2⟩ := p
  simp only at hd2 HPL HRE2 ⊢
  have HZ2W := hid (fun k (hk : Z2 k) => show W.heap.size ≤ k from (hg2 k hk).elim (HZW.out k) (fun hge => by have := HBW.out.1.1; have := HBW.out.1.2; have := HF1.out.size; omega))
  have HM2 := hid (HM1.out.disk HZW.out hd2 hf2 hg2 HPL.out.1)
  have HG2 : Hid (Grows w Z Z2) := hid (fun k hk => (hg2 k hk).imp id (fun hge => by have := HF1.out.size; omega))
  have HFO2 : Hid (Fr O w w2) := hid (HF1.out.no.trans' (frO hf2 (fun k hk => HO.out k (.inl hk))))
  have hnq : ¬ Z bq := fun hz => by have := HZL.out _ hz; have := HBQ.out; omega
  have HQ2 := hid (HQ1.out.fr hf2 hnq)
  have HNQ2 : Hid (¬ Z2 bq) := hid (fun hz => (hg2 bq hz).elim hnq (fun hge => by have := HQ1.out.lt; omega))
  have HDK2 := hid hd2
  clear hd2 hf2 hg2 hp hnq HM1 HQ1
  have fin : ∀ (w' : World) (Z' : Nat → Prop) (bg' : Nat) (s' : Sd), StM W w' b bd bg' bt Z' T s' → (∀ k, Z' k → W.heap.size ≤ k) → W.heap.size ≤ bg' → s'.r.area ≤ 1 → s'.r.Ok → 32 ≤ s'.u.L.length → Fr O w w' → Grows w Z Z' → (bg' = bg ∨ w.heap.size ≤ bg') →
      ∃ O', Sto W w' b bd O' s' ∧ Fr O w w' ∧ Grows w O O' := by
    intro w' Z' bg' s' h1 h2 h3 h4 h5 h6 h7 h8 h9
    refine ⟨_, h1.sto h2 h3 h4 h5 h6, h7, ?_⟩
    rintro k (hk | hk | rfl | rfl)
    · exact (h8 k hk).imp (fun h => HO.out k (.inl h)) id
    · exact .inl (HO.out k (.inr (.inl hk)))
    · exact .inl (HO.out _ (.inr (.inr (.inl rfl))))
    · exact h9.imp (fun h => HO.out _ (.inr (.inr (.inr h)))) id
  have FIN := hid fin
  clear fin
  by_cases hc : c2 = 0
  · subst hc
    have HRE3 : Hid ((let c := U.wroot u2 nx
      if c.1 ≠ 0 then (c.1, { s with u := c.2 }) else
      match (U.olog c.2 nx.epoch).2.2 with
      | none => ((U.olog c.2 nx.epoch).1, { s with u := (U.olog c.2 nx.epoch).2.1 })
      | some (g, _) => (0, { s with u := (U.olog c.2 nx.epoch).2.1, r := nx, g := g })) = R) := hid (by have h := HRE2.out; rw [if_neg (by simp)] at h; exact h)
    have HP2 := hid (HPL.out.2 rfl)
    go_wp2_with fail
    clear HRE2 HRE
    have HM2d := hid (HM2.out.no ((Fr.refl No w2).drew))
    have hv := HM2d.out.c.blk.range 0 [pt bd] rfl
    have HQ2d := hid HQ2.out.drew
    have hold : Facts.hold [(3, fun w' => w'.rangeAt b 0 [pt bd]), (4, fun w' => w'.rangeAt bq 0 nx.cells)] w2.drew := Facts.cons_hold hv (Facts.cons_hold (HQ2d.out.range 0 _ rfl) (Facts.nil_hold _))
    refine wpD_region hold (by kernel_rfl) 7 rfl ?_
    (refine wpD_plain 0 (v := ?_) rfl (by kernel_rfl) (by kernel_rfl) (by kernel_rfl) (fun _ _ _ h => h) (by rfl) ?_ (by assumption) ?_; rotate_left; (intro _w; go_simp; try with_reducible rfl); simp only [Act.put, List.setIfInBounds_toArray, List.set_cons_zero, List.set_cons_succ])
    (refine wpD_plain 1 (v := ?_) rfl (by kernel_rfl) (by kernel_rfl) (by kernel_rfl) (fun _ _ _ h => h) (by rfl) ?_ (by assumption) ?_; rotate_left; (intro _w; go_simp; try with_reducible rfl); simp only [Act.put, List.setIfInBounds_toArray, List.set_cons_zero, List.set_cons_succ])
    (refine wpD_plain 2 (v := ?_) rfl (by kernel_rfl) (by kernel_rfl) (by kernel_rfl) (fun _ _ _ h => h) (by rfl) ?_ (by assumption) ?_; rotate_left; (intro _w; go_simp; try with_reducible rfl); simp only [Act.put, List.setIfInBounds_toArray, List.set_cons_zero, List.set_cons_succ])
    (refine wpD_take 3 _ rfl (by kernel_rfl) (by kernel_rfl) (by kernel_rfl) (fun _ _ _ h => h) List.mem_cons_self (by rfl) (exec_load _ _ rfl b 0 rfl _ _ rfl rfl infoVol) (by assumption) ?_; simp only [Act.put, List.setIfInBounds_toArray, List.set_cons_zero, List.set_cons_succ])
    (refine wpD_take 4 _ rfl (by kernel_rfl) (by kernel_rfl) (by kernel_rfl) (fun _ _ _ h => h) (List.mem_cons_of_mem _ List.mem_cons_self) (by rfl) (exec_load _ _ rfl bq 0 rfl _ _ rfl rfl infoRt) (by assumption) ?_; simp only [Act.put, List.setIfInBounds_toArray, List.set_cons_zero, List.set_cons_succ])
    clear hold hv
    refine wpD_only 5 [] rfl (by kernel_rfl) (by kernel_rfl) (by rfl) (fun K5 hK5 => ?_)
    refine wp_call (.func 65) _ _ rfl 65 [] rfl hentWR [vol bd, .agg nx.cells.toArray] (by rfl) ?_
    refine (writeRoot_any nx HR.out HM2d.out.a.1 (by rw [HP2.out]; decide)).mono ?_
    rintro e w3 ⟨rfl, Z3, hd3, hf3, hg3⟩
    have hold : Facts.hold [] w3 := Facts.nil_hold _
    refine ⟨_, rfl, hK5 _ _ hold ?_⟩
    clear hK5 K5
    simp only [Act.put, List.setIfInBounds_toArray, List.set_cons_zero, List.set_cons_succ]
    (refine wpD_plain 6 (v := ?_) rfl (by kernel_rfl) (by kernel_rfl) (by kernel_rfl) (fun _ _ _ h => h) (by rfl) ?_ (by assumption) ?_; rotate_left; (intro _w; go_simp; try with_reducible rfl); simp only [Act.put, List.setIfInBounds_toArray, List.set_cons_zero, List.set_cons_succ])
    refine wpD_done (by kernel_rfl) ?_ _
    clear hold
    obtain ⟨p, hp⟩ : ∃ p, U.wroot u2 nx = p := ⟨_, rfl⟩
    have HPL3 : Hid (p.2.L.length = u2.L.length ∧ (p.1 = 0 → p.2.P = [])) := hid (by rw [← hp]; exact ⟨wroot_L _ _, wroot_P⟩)
    have HRE4 : Hid ((if p.1 ≠ 0 then (p.1, { s with u := p.2 }) else
      match (U.olog p.2 nx.epoch).2.2 with
      | none => ((U.olog p.2 nx.epoch).1, { s with u := (U.olog p.2 nx.epoch).2.1 })
      | some (g, _) => (0, { s with u := (U.olog p.2 nx.epoch).2.1, r := nx, g := g })) = R) := hid (by have h := HRE3.out; rw [hp] at h; exact h)
    have hd3' : Dk w3 bd Z3 p.2 := by rw [← hp]; exact hd3
    rw [show U.wroot ({ s with u := u2 } : Sd).u nx = p from hp]
    clear hd3
    obtain ⟨c3, u3⟩ := p
    simp only at hd3' HPL3 HRE4 ⊢
    have HL3 : Hid (u3.L.length = s.u.L.length) := hid (HPL3.out.1.trans HPL.out.1)
    have f23 : Fr Z2 w2 w3 := Fr.trans' (b := w2.drew) (Fr.refl Z2 w2).drew hf3
    have hg3' : Grows w2 Z2 Z3 := hg3
    have HZ3W := hid (fun k (hk : Z3 k) => show W.heap.size ≤ k from (hg3' k hk).elim (HZ2W.out k) (fun hge => by have := HBW.out.1.1; have := HBW.out.1.2; have := HFO2.out.size; omega))
    have HM3 : Hid (StM W w3 b bd bg bt Z3 T { s with u := u3 }) := hid (HM2.out.disk HZ2W.out hd3' f23 hg3' HPL3.out.1)
    have HG3 : Hid (Grows w Z Z3) := hid (fun k hk => (hg3' k hk).elim (HG2.out k) (fun hge => .inr (by have := HFO2.out.size; omega)))
    have HFO3 : Hid (Fr O w w3) := hid (HFO2.out.trans f23 (fun k hk => (HG2.out k hk).imp (fun h => HO.out k (.inl h)) id))
    have HQ3 := hid (HQ2.out.fr f23 HNQ2.out)
    have HNQ3 : Hid (¬ Z3 bq) := hid (fun hz => (hg3' bq hz).elim HNQ2.out (fun hge => by have := HQ2.out.lt; omega))
    clear hd3' hf3 hg3 hg3' f23 hp HRE3 HM2d HQ2d
    by_cases hc3 : c3 = 0
    · subst hc3
      have HRE5 : Hid ((match (U.olog u3 nx.epoch).2.2 with
        | none => ((U.olog u3 nx.epoch).1, { s with u := (U.olog u3 nx.epoch).2.1 })
        | some (g, _) => (0, { s with u := (U.olog u3 nx.epoch).2.1, r := nx, g := g })) = R) := hid (by have h := HRE4.out; rw [if_neg (by simp)] at h; exact h)
      have HP3 := hid (HPL3.out.2 rfl)
      clear HRE4
      go_wp2_with fail
      have HM3d := hid (HM3.out.no ((Fr.refl No w3).drew))
      have hv := HM3d.out.c.blk.range 0 [pt bd] rfl
      have q1 : w3.cell? ⟨bq, 1, none⟩ = some (.int .u32 (nx.epoch : Int)) := HQ3.out.cell 1
      have hold : Facts.hold [(3, fun w' => w'.rangeAt b 0 [pt bd]), (5, fun w' => w'.cell? ⟨bq, 1, none⟩ = some (.int .u32 (nx.epoch : Int)))] w3.drew := Facts.cons_hold hv (Facts.cons_hold q1 (Facts.nil_hold _))
      refine wpD_region hold (by kernel_rfl) 14 rfl ?_
      (refine wpD_plain 0 (v := ?_) rfl (by kernel_rfl) (by kernel_rfl) (by kernel_rfl) (fun _ _ _ h => h) (by rfl) ?_ (by assumption) ?_; rotate_left; (intro _w; go_simp; try with_reducible rfl); simp only [Act.put, List.setIfInBounds_toArray, List.set_cons_zero, List.set_cons_succ])
      (refine wpD_plain 1 (v := ?_) rfl (by kernel_rfl) (by kernel_rfl) (by kernel_rfl) (fun _ _ _ h => h) (by rfl) ?_ (by assumption) ?_; rotate_left; (intro _w; go_simp; try with_reducible rfl); simp only [Act.put, List.setIfInBounds_toArray, List.set_cons_zero, List.set_cons_succ])
      (refine wpD_plain 2 (v := ?_) rfl (by kernel_rfl) (by kernel_rfl) (by kernel_rfl) (fun _ _ _ h => h) (by rfl) ?_ (by assumption) ?_; rotate_left; (intro _w; go_simp; try with_reducible rfl); simp only [Act.put, List.setIfInBounds_toArray, List.set_cons_zero, List.set_cons_succ])
      (refine wpD_take 3 _ rfl (by kernel_rfl) (by kernel_rfl) (by kernel_rfl) (fun _ _ _ h => h) List.mem_cons_self (by rfl) (exec_load _ _ rfl b 0 rfl _ _ rfl rfl infoVol) (by assumption) ?_; simp only [Act.put, List.setIfInBounds_toArray, List.set_cons_zero, List.set_cons_succ])
      (refine wpD_plain 4 (v := ?_) rfl (by kernel_rfl) (by kernel_rfl) (by kernel_rfl) (fun _ _ _ h => h) (by rfl) ?_ (by assumption) ?_; rotate_left; (intro _w; go_simp; try with_reducible rfl); simp only [Act.put, List.setIfInBounds_toArray, List.set_cons_zero, List.set_cons_succ])
      (refine wpD_take 5 _ rfl (by kernel_rfl) (by kernel_rfl) (by kernel_rfl) (fun _ _ _ h => h) (List.mem_cons_of_mem _ List.mem_cons_self) (by rfl) (v := ?_) ?_ (by assumption) ?_; rotate_left; (intro _w _hw; go_simp; try with_reducible rfl); simp only [Act.put, List.setIfInBounds_toArray, List.set_cons_zero, List.set_cons_succ])
      clear hold hv q1
      refine wpD_only 6 [] rfl (by kernel_rfl) (by kernel_rfl) (by rfl) (fun K6 hK6 => ?_)
      refine wp_call (.func 52) _ _ rfl 52 [] rfl hentOL [vol bd, .int .u32 (nx.epoch : Int)] (by rfl) ?_
      refine (openLog_any nx.epoch HM3d.out.a.1 (by show 32 ≤ u3.L.length; rw [HL3.out]; exact H.out.big) HR.out.e (by show u3.P.length < _; rw [HP3.out]; decide)).mono ?_
      intro e w4 ho
      obtain ⟨v1, v2, v3, rfl⟩ := opened_tuple ho
      have HO4 := hid (opened_pre ((Fr.refl No w3).drew) ho)
      clear ho
      have hold : Facts.hold [] w4 := Facts.nil_hold _
      refine ⟨_, rfl, hK6 _ _ hold ?_⟩
      clear hK6 K6
      simp only [Act.put, List.setIfInBounds_toArray, List.set_cons_zero, List.set_cons_succ]
      (refine wpD_plain 7 (v := ?_) rfl (by kernel_rfl) (by kernel_rfl) (by kernel_rfl) (fun _ _ _ h => h) (by rfl) ?_ (by assumption) ?_; rotate_left; (intro _w; go_simp; try with_reducible rfl); simp only [Act.put, List.setIfInBounds_toArray, List.set_cons_zero, List.set_cons_succ])
      (refine wpD_plain 8 (v := ?_) rfl (by kernel_rfl) (by kernel_rfl) (by kernel_rfl) (fun _ _ _ h => h) (by rfl) ?_ (by assumption) ?_; rotate_left; (intro _w; go_simp; try with_reducible rfl); simp only [Act.put, List.setIfInBounds_toArray, List.set_cons_zero, List.set_cons_succ])
      (refine wpD_plain 9 (v := ?_) rfl (by kernel_rfl) (by kernel_rfl) (by kernel_rfl) (fun _ _ _ h => h) (by rfl) ?_ (by assumption) ?_; rotate_left; (intro _w; go_simp; try with_reducible rfl); simp only [Act.put, List.setIfInBounds_toArray, List.set_cons_zero, List.set_cons_succ])
      (refine wpD_plain 10 (v := ?_) rfl (by kernel_rfl) (by kernel_rfl) (by kernel_rfl) (fun _ _ _ h => h) (by rfl) ?_ (by assumption) ?_; rotate_left; (intro _w; go_simp; try with_reducible rfl); simp only [Act.put, List.setIfInBounds_toArray, List.set_cons_zero, List.set_cons_succ])
      (refine wpD_plain 11 (v := ?_) rfl (by kernel_rfl) (by kernel_rfl) (by kernel_rfl) (fun _ _ _ h => h) (by rfl) ?_ (by assumption) ?_; rotate_left; (intro _w; go_simp; try with_reducible rfl); simp only [Act.put, List.setIfInBounds_toArray, List.set_cons_zero, List.set_cons_succ])
      (refine wpD_plain 12 (v := ?_) rfl (by kernel_rfl) (by kernel_rfl) (by kernel_rfl) (fun _ _ _ h => h) (by rfl) ?_ (by assumption) ?_; rotate_left; (intro _w; go_simp; try with_reducible rfl); simp only [Act.put, List.setIfInBounds_toArray, List.set_cons_zero, List.set_cons_succ])
      (refine wpD_plain 13 (v := ?_) rfl (by kernel_rfl) (by kernel_rfl) (by kernel_rfl) (fun _ _ _ h => h) (by rfl) ?_ (by assumption) ?_; rotate_left; (intro _w; go_simp; try with_reducible rfl); simp only [Act.put, List.setIfInBounds_toArray, List.set_cons_zero, List.set_cons_succ])
      refine wpD_done (by kernel_rfl) ?_ _
      clear hold
      obtain ⟨Z4, hf4, hg4, hm⟩ := HO4.out
      have HL4 : Hid ((U.olog u3 nx.epoch).2.1.L.length = s.u.L.length) := hid ((opens_L _ _ _ _).trans HL3.out)
      have HZ4W := hid (fun k (hk : Z4 k) => show W.heap.size ≤ k from (hg4 k hk).elim (HZ3W.out k) (fun hge => by have := HBW.out.1.1; have := HBW.out.1.2; have := HFO3.out.size; omega))
      have HG4 : Hid (Grows w Z Z4) := hid (fun k hk => (hg4 k hk).elim (HG3.out k) (fun hge => .inr (by have := HFO3.out.size; omega)))
      have HFO4 : Hid (Fr O w w4) := hid (HFO3.out.trans hf4 (fun k hk => (HG3.out k hk).imp (fun h => HO.out k (.inl h)) id))
      have HQ4 := hid (HQ3.out.fr hf4 HNQ3.out)
      have HF4 := hid hf4; have HGG4 := hid hg4
      clear hf4 hg4 HO4 HM3d
      cases ho : (U.olog u3 nx.epoch).2.2 with
      | none =>
        rw [show U.olog ({ s with u := u3 } : Sd).u nx.epoch = U.olog u3 nx.epoch from rfl, ho] at hm
        obtain ⟨h1, h2⟩ := hm
        simp only [Ending.returned.injEq, Value.tuple.injEq, Array.mk.injEq, List.cons.injEq, and_true] at h1
        obtain ⟨rfl, rfl, rfl⟩ := h1
        have hne := olog_none ho
        have HRF : Hid (R = ((U.olog u3 nx.epoch).1, { s with u := (U.olog u3 nx.epoch).2.1 })) := hid (by have h := HRE5.out; rw [ho] at h; exact h.symm)
        obtain ⟨c, hc⟩ : ∃ c, (U.olog u3 nx.epoch).1 = c := ⟨_, rfl⟩
        rw [hc] at hne HRF ⊢
        have HM4 : Hid (StM W w4 b bd bg bt Z4 T { s with u := (U.olog u3 nx.epoch).2.1 }) := hid (HM3.out.disk HZ3W.out h2 HF4.out HGG4.out (HL4.out.trans HL3.out.symm))
        clear h2 hc ho
        go_wp2_with fail
        go_ret
        rw [HRF.out]
        exact ⟨rfl, FIN.out w4 Z4 bg _ HM4.out HZ4W.out HBW.out.2.1 H.out.area H.out.rok (by rw [HL4.out]; exact H.out.big) HFO4.out HG4.out (.inl rfl)⟩
      | some q =>
        obtain ⟨g, recs⟩ := q
        rw [show U.olog ({ s with u := u3 } : Sd).u nx.epoch = U.olog u3 nx.epoch from rfl, ho] at hm
        simp only at hm
        obtain ⟨bg', v, h1, h2, h3, h4⟩ := hm
        simp only [Ending.returned.injEq, Value.tuple.injEq, Array.mk.injEq, List.cons.injEq, and_true] at h1
        obtain ⟨rfl, rfl, rfl⟩ := h1
        have HRF : Hid (R = (0, { s with u := (U.olog u3 nx.epoch).2.1, r := nx, g := g })) := hid (by have h := HRE5.out; rw [ho] at h; exact h.symm)
        have HBG := hid h2; have HAT := hid h3
        have HM4 : Hid (StM W w4 b bd bg bt Z4 T { s with u := (U.olog u3 nx.epoch).2.1 }) := hid (HM3.out.disk HZ3W.out h3.1 HF4.out HGG4.out (HL4.out.trans HL3.out.symm))
        clear h2 h3 h4 ho HRE5
        obtain ⟨u4, hu4⟩ : ∃ x, (U.olog u3 nx.epoch).2.1 = x := ⟨_, rfl⟩
        rw [show U.olog ({ s with u := u3 } : Sd).u nx.epoch = U.olog u3 nx.epoch from rfl, hu4] at HAT
        rw [hu4] at HM4 HL4 HRF
        clear hu4
        have HB4 := hid HM4.out.c.blk
        have hq := HQ4.out.range 0 nx.cells rfl
        go_wp2_with (first
          | ((with_reducible show wpList _ _ _ (⟨_, .load 66 _, _, _, _, _⟩ :: _) _ _); refine wpL_load rfl _ _ rfl bq 0 rfl nx.cells _ hq rfl rfl infoRt ?_)
          | ((with_reducible show wpList _ _ _ (⟨_, .store 66 _ _, _, _, _, _⟩ :: _) _ _); refine TR.wpL_storeV rfl _ _ _ rfl b 4 (.agg nx.cells.toArray) nx.cells rfl rfl rfl _ _ HB4.out (by simp [stC, Rt.cells]) infoRt (rt_one _) ?_; intro w5 HB5 F5 HS5; have q1 := HB5.out.cell 1; have q2 := HB5.out.frozen 1)
          | fail)
        go_ret
        rw [HRF.out]
        have f46 : Fr (fun k => k = b) w4 (w5.setCell ⟨b, 1, none⟩ (pt bg')) := F5.out.setCell _ _ (.inl rfl)
        have HB6 := HB5.out.set 1 (pt bg')
        have hcb : ∀ k, T.fp k → ¬ k = b := fun k hk e => HM4.out.c.nb (by rw [← e]; exact hk)
        have h04 := HFO4.out.size
        have h03 := HFO3.out.size
        have hbw := HBW.out.1.2
        have hbg := HBG.out
        have hcell : (spl ((stC bd (pt bg) (pt bt) 0 s.r s.br).set 3 (.int .i64 (imgN s.l : Int))) 4 nx.cells).set 1 (pt bg') = (stC bd (pt bg') (pt bt) 0 nx s.br).set 3 (.int .i64 (imgN s.l : Int)) := by simp [spl, stC, Rt.cells]
        refine ⟨rfl, FIN.out _ Z4 bg' { s with u := u4, r := nx, g := g } ⟨?_, ?_, ?_, ?_, HM4.out.z⟩ HZ4W.out (by have := HBW.out.1.1; omega) HA.out HR.out (by show 32 ≤ u4.L.length; rw [HL4.out]; exact H.out.big) (HFO4.out.trans f46 (fun k hk => .inl (by have e' : k = b := hk; rw [e']; exact HO.out b (.inr (.inr (.inl rfl)))))) HG4.out (.inr (by omega))⟩
        · exact HAT.out.fr f46 (fun k hk e => (HM4.out.z k hk).2 e) (fun e => by have e' : bg' = b := e; omega)
        · refine ⟨⟨HM4.out.c.t.b, HM4.out.c.t.at_.fr f46 hcb, HM4.out.c.t.fr.trans f46 (fun k hk => .inr (by have e' : k = b := hk; have := HM4.out.c.bw; omega)), HM4.out.c.t.ge⟩, ?_, rfl, by simp [stC], HM4.out.c.nb, HM4.out.c.bw, HM4.out.c.m⟩
          rw [← hcell]
          exact HB6
        · intro hf
          have := HM3.out.c.t.at_.lt _ hf
          omega
        · intro e
          omega
    · have HRF : Hid (R = (c3, { s with u := u3 })) := hid (by have h := HRE4.out; rw [if_pos hc3] at h; exact h.symm)
      go_wp2_with fail
      go_ret
      rw [HRF.out]
      exact ⟨rfl, FIN.out w3 Z3 bg _ HM3.out HZ3W.out HBW.out.2.1 H.out.area H.out.rok (by show 32 ≤ u3.L.length; rw [HL3.out]; exact H.out.big) HFO3.out HG3.out (.inl rfl)⟩
  · have HRF : Hid (R = (c2, { s with u := u2 })) := hid (by have h := HRE2.out; rw [if_pos hc] at h; exact h.symm)
    go_wp2_with fail
    go_ret
    rw [HRF.out]
    exact ⟨rfl, FIN.out w2 Z2 bg _ HM2.out HZ2W.out HBW.out.2.1 H.out.area H.out.rok (by rw [HPL.out.1]; exact H.out.big) HFO2.out HG2.out (.inl rfl)⟩
end
end Go.Proofs.YtflfmkokfbgclaaGreat.ST

namespace Go.Proofs.YtflfmkokfbgclaaGreat.ST
set_option maxRecDepth 100000
open Go.RowKit K L

/-- The root of the next checkpoint. -/
def nextR (s : Sd) : Rt := ⟨1 - s.r.area, (s.r.epoch + 1) % 4294967296, (imgS s.l).length, S.add 0 (imgS s.l)⟩
def ckS (s : Sd) : Int × Sd := if s.br = true then (10, s) else
  if (replS s (nextR s) (imgS s.l)).1 ≠ 0 then ((replS s (nextR s) (imgS s.l)).1, { (replS s (nextR s) (imgS s.l)).2 with br := true }) else (0, (replS s (nextR s) (imgS s.l)).2)
section
variable {W w w' : World} {b bd : Nat} {O : Nat → Prop} {s : Sd}
theorem Sto.no (h : Sto W w b bd O s) (f : Fr No w w') : Sto W w' b bd O s := by
  obtain ⟨bg, bt, Z, T, h1, h2⟩ := h.split
  have h1' := h1.no f
  exact ⟨⟨bg, bt, Z, T, h1'.a, h1'.c, h1'.g, h1'.n, h1'.z, h2⟩, fun k hk => ⟨(h.ow k hk).1, Nat.lt_of_lt_of_le (h.ow k hk).2 f.size⟩, h.area, h.rok, h.big⟩
theorem Sto.cell8 (h : Sto W w b bd O s) : w.cell? ⟨b, 8, none⟩ = some (.bool s.br) ∧ w.frozen? ⟨b, 8, none⟩ = false := by
  obtain ⟨bg, bt, Z, T, h1, h2⟩ := h.split
  exact ⟨h1.c.blk.cell 8, h1.c.blk.frozen 8⟩
theorem Sto.own (h : Sto W w b bd O s) : O b := by
  obtain ⟨bg, bt, Z, T, h1, h2⟩ := h.split
  exact h2 b (.inr (.inr (.inl rfl)))
theorem Sto.brk (h : Sto W w b bd O s) : Sto W (w.setCell ⟨b, 8, none⟩ (.bool true)) b bd O { s with br := true } := by
  obtain ⟨bg, bt, Z, T, h1, h2⟩ := h.split
  have hs : Fr (fun k => k = b) w (w.setCell ⟨b, 8, none⟩ (.bool true)) := (Fr.refl _ _).setCell _ _ (.inl rfl)
  have hcb : ∀ k, T.fp k → ¬ k = b := fun k hk e => h1.c.nb (by rw [← e]; exact hk)
  refine ⟨⟨bg, bt, Z, T, h1.a.fr hs (fun k hk e => (h1.z k hk).2 e) h1.n, ⟨⟨h1.c.t.b, h1.c.t.at_.fr hs hcb, h1.c.t.fr.trans hs (fun k hk => .inr (by have e' : k = b := hk; have := h1.c.bw; omega)), h1.c.t.ge⟩, h1.c.blk.set 8 (.bool true), rfl, by simp [stC], h1.c.nb, h1.c.bw, h1.c.m⟩, h1.g, h1.n, h1.z, h2⟩, fun k hk => ⟨(h.ow k hk).1, Nat.lt_of_lt_of_le (h.ow k hk).2 hs.size⟩, h.area, h.rok, h.big⟩
set_option maxHeartbeats 16000000 in
theorem checkpoint_any (h : Sto W w b bd O s) (hp : s.u.P.length < 400000) (hi : imgN s.l ≤ 500000) (hl : s.l.length ≤ 100000) :
    Calls Tryz.prog 19 #[pt b] w (StP W w b bd O (ckS s)) := by
  have H := hid h; have HP := hid hp; have HI := hid hi; have HL := hid hl
  obtain ⟨c8, -⟩ := h.cell8
  obtain ⟨R, hR⟩ : ∃ R, ckS s = R := ⟨_, rfl⟩
  have HRE := hid hR
  rw [hR]
  clear h hp hi hl hR
  cases hbr : s.br with
  | true =>
    rw [hbr] at c8
    have HRF : Hid (R = (10, s)) := hid (by rw [← HRE.out]; unfold ckS; rw [if_pos hbr])
    clear hbr
    go_enter Tryz.func19, Tryz.ntmps19
    go_wp2_with fail
    go_ret
    rw [HRF.out]
    exact ⟨rfl, O, H.out, Fr.refl _ _, fun _ h => .inl h⟩
  | false =>
    rw [hbr] at c8
    obtain ⟨img, himg⟩ : ∃ x, imgS s.l = x := ⟨_, rfl⟩
    obtain ⟨nx, hnx⟩ : ∃ x, nextR s = x := ⟨_, rfl⟩
    have HNX : Hid (nx = ⟨1 - s.r.area, (s.r.epoch + 1) % 4294967296, img.length, S.add 0 img⟩) := hid (by rw [← hnx, ← himg]; rfl)
    have HRF : Hid ((if (replS s nx img).1 ≠ 0 then ((replS s nx img).1, { (replS s nx img).2 with br := true }) else (0, (replS s nx img).2)) = R) := hid (by have h := HRE.out; unfold ckS at h; rw [if_neg (by rw [hbr]; decide), himg, hnx] at h; exact h)
    have HIL : Hid (img.length ≤ 500000) := hid (by rw [← himg, imgS_length]; exact HI.out)
    have HNO : Hid (nx.area ≤ 1 ∧ nx.Ok) := hid (by
      rw [HNX.out]
      exact ⟨Nat.sub_le _ _, ⟨Nat.lt_of_le_of_lt (Nat.sub_le _ _) (by decide), Nat.mod_lt _ (by decide), Nat.lt_of_le_of_lt HIL.out (by decide), S.add_lt (by decide) _⟩⟩)
    have HIMG := hid himg
    have HARE := hid H.out.area
    have HEP := hid H.out.rok.e
    obtain ⟨ar, har⟩ : ∃ x, s.r.area = x := ⟨_, rfl⟩
    obtain ⟨ep, hep⟩ : ∃ x, s.r.epoch = x := ⟨_, rfl⟩
    obtain ⟨sm, hsm⟩ : ∃ x, S.add 0 img = x := ⟨_, rfl⟩
    rw [har, hep, hsm] at HNX
    rw [har] at HARE
    rw [hep] at HEP
    have HSM := hid hsm
    obtain ⟨bg, bt, Z, T, hM, hO⟩ := H.out.split
    have HM := hid hM
    have HCI := hid (image_any W w b 2 _ _ bt T s.l hM.c HI.out HL.out)
    rw [himg] at HCI
    have HC4 : Hid (w.cell? ⟨b, 4, none⟩ = some (.int .i64 (ar : Int))) := hid (by rw [← har]; exact hM.c.blk.cell 4)
    have HC5 : Hid (w.cell? ⟨b, 5, none⟩ = some (.int .u32 (ep : Int))) := hid (by rw [← hep]; exact hM.c.blk.cell 5)
    clear hbr himg hnx har hep hsm hM hO
    go_enter Tryz.func19, Tryz.ntmps19
    go_wp2_with fail
    refine HCI.out.mono ?_
    rintro e w1 ⟨rfl, f1⟩
    have HF1 := hid f1
    obtain ⟨t, ht⟩ : ∃ t : S, ByteArray.mk img.toArray = t := ⟨_, rfl⟩
    have HSZ : Hid (t.size = img.length) := hid (by rw [← ht]; show img.toArray.size = _; simp)
    have HTD : Hid (t.data.toList = img) := hid (by rw [← ht])
    rw [show L.str img = Value.string t from congrArg Value.string ht]
    clear f1 ht
    go_wp2_with fail
    have c4 : w1.cell? ⟨b, 4, none⟩ = some (.int .i64 (ar : Int)) := HF1.out.cell HC4.out id
    have c5 : w1.cell? ⟨b, 5, none⟩ = some (.int .u32 (ep : Int)) := HF1.out.cell HC5.out id
    have W1 : Hid (IntKind.i64.wrap (1 - (ar : Int)) = ((1 - ar : Nat) : Int)) := hid ((L.wrap_small (by have := HARE.out; omega) (by omega)).trans (by have := HARE.out; omega))
    have W2 : Hid (IntKind.u32.wrap ((ep : Int) + 1) = (((ep + 1) % 4294967296 : Nat) : Int)) := hid (by rw [IntKind.wrap_u32']; omega)
    have HNC : Hid (nx.cells = [.int .i64 ((1 - ar : Nat) : Int), .int .u32 (((ep + 1) % 4294967296 : Nat) : Int), .int .i64 (img.length : Int), .int .u32 (sm : Int)]) := hid (by rw [HNX.out]; rfl)
    have hold : Facts.hold [(4, fun w' => w'.cell? ⟨b, 4, none⟩ = some (.int .i64 (ar : Int))), (10, fun w' => w'.cell? ⟨b, 5, none⟩ = some (.int .u32 (ep : Int)))] w1.drew := Facts.cons_hold c4 (Facts.cons_hold c5 (Facts.nil_hold _))
    refine wpD_region hold (by kernel_rfl) 19 rfl ?_
    (refine wpD_plain 0 (v := ?_) rfl (by kernel_rfl) (by kernel_rfl) (by kernel_rfl) (fun _ _ _ h => h) (by rfl) ?_ (by assumption) ?_; rotate_left; (intro _w; go_simp; try with_reducible rfl); simp only [Act.put, List.setIfInBounds_toArray, List.set_cons_zero, List.set_cons_succ])
    (refine wpD_plain 1 (v := ?_) rfl (by kernel_rfl) (by kernel_rfl) (by kernel_rfl) (fun _ _ _ h => h) (by rfl) ?_ (by assumption) ?_; rotate_left; (intro _w; go_simp; try with_reducible rfl); simp only [Act.put, List.setIfInBounds_toArray, List.set_cons_zero, List.set_cons_succ])
    (refine wpD_plain 2 (v := ?_) rfl (by kernel_rfl) (by kernel_rfl) (by kernel_rfl) (fun _ _ _ h => h) (by rfl) ?_ (by assumption) ?_; rotate_left; (intro _w; go_simp; try with_reducible rfl); simp only [Act.put, List.setIfInBounds_toArray, List.set_cons_zero, List.set_cons_succ])
    (refine wpD_plain 3 (v := ?_) rfl (by kernel_rfl) (by kernel_rfl) (by kernel_rfl) (fun _ _ _ h => h) (by rfl) ?_ (by assumption) ?_; rotate_left; (intro _w; go_simp; try with_reducible rfl); simp only [Act.put, List.setIfInBounds_toArray, List.set_cons_zero, List.set_cons_succ])
    (refine wpD_take 4 _ rfl (by kernel_rfl) (by kernel_rfl) (by kernel_rfl) (fun _ _ _ h => h) List.mem_cons_self (by rfl) (v := ?_) ?_ (by assumption) ?_; rotate_left; (intro _w _hw; go_simp; try with_reducible rfl); simp only [Act.put, List.setIfInBounds_toArray, List.set_cons_zero, List.set_cons_succ])
    (refine wpD_plain 5 (v := (.int .i64 ((1 - ar : Nat) : Int))) rfl (by kernel_rfl) (by kernel_rfl) (by kernel_rfl) (fun _ _ _ h => h) (by rfl) ?_ (by assumption) ?_; (intro _w; go_simp; exact W1.out); simp only [Act.put, List.setIfInBounds_toArray, List.set_cons_zero, List.set_cons_succ])
    (refine wpD_plain 6 (v := ?_) rfl (by kernel_rfl) (by kernel_rfl) (by kernel_rfl) (fun _ _ _ h => h) (by rfl) ?_ (by assumption) ?_; rotate_left; (intro _w; go_simp; try with_reducible rfl); simp only [Act.put, List.setIfInBounds_toArray, List.set_cons_zero, List.set_cons_succ])
    (refine wpD_plain 7 (v := ?_) rfl (by kernel_rfl) (by kernel_rfl) (by kernel_rfl) (fun _ _ _ h => h) (by rfl) ?_ (by assumption) ?_; rotate_left; (intro _w; go_simp; try with_reducible rfl); simp only [Act.put, List.setIfInBounds_toArray, List.set_cons_zero, List.set_cons_succ])
    (refine wpD_plain 8 (v := ?_) rfl (by kernel_rfl) (by kernel_rfl) (by kernel_rfl) (fun _ _ _ h => h) (by rfl) ?_ (by assumption) ?_; rotate_left; (intro _w; go_simp; try with_reducible rfl); simp only [Act.put, List.setIfInBounds_toArray, List.set_cons_zero, List.set_cons_succ])
    (refine wpD_plain 9 (v := ?_) rfl (by kernel_rfl) (by kernel_rfl) (by kernel_rfl) (fun _ _ _ h => h) (by rfl) ?_ (by assumption) ?_; rotate_left; (intro _w; go_simp; try with_reducible rfl); simp only [Act.put, List.setIfInBounds_toArray, List.set_cons_zero, List.set_cons_succ])
    (refine wpD_take 10 _ rfl (by kernel_rfl) (by kernel_rfl) (by kernel_rfl) (fun _ _ _ h => h) (List.mem_cons_of_mem _ List.mem_cons_self) (by rfl) (v := ?_) ?_ (by assumption) ?_; rotate_left; (intro _w _hw; go_simp; try with_reducible rfl); simp only [Act.put, List.setIfInBounds_toArray, List.set_cons_zero, List.set_cons_succ])
    (refine wpD_plain 11 (v := (.int .u32 (((ep + 1) % 4294967296 : Nat) : Int))) rfl (by kernel_rfl) (by kernel_rfl) (by kernel_rfl) (fun _ _ _ h => h) (by rfl) ?_ (by assumption) ?_; (intro _w; go_simp; exact W2.out); simp only [Act.put, List.setIfInBounds_toArray, List.set_cons_zero, List.set_cons_succ])
    (refine wpD_plain 12 (v := ?_) rfl (by kernel_rfl) (by kernel_rfl) (by kernel_rfl) (fun _ _ _ h => h) (by rfl) ?_ (by assumption) ?_; rotate_left; (intro _w; go_simp; try with_reducible rfl); simp only [Act.put, List.setIfInBounds_toArray, List.set_cons_zero, List.set_cons_succ])
    (refine wpD_plain 13 (v := (.int .i64 (img.length : Int))) rfl (by kernel_rfl) (by kernel_rfl) (by kernel_rfl) (fun _ _ _ h => h) (by rfl) ?_ (by assumption) ?_; (intro _w; go_simp; rw [HSZ.out]); simp only [Act.put, List.setIfInBounds_toArray, List.set_cons_zero, List.set_cons_succ])
    (refine wpD_plain 14 (v := ?_) rfl (by kernel_rfl) (by kernel_rfl) (by kernel_rfl) (fun _ _ _ h => h) (by rfl) ?_ (by assumption) ?_; rotate_left; (intro _w; go_simp; try with_reducible rfl); simp only [Act.put, List.setIfInBounds_toArray, List.set_cons_zero, List.set_cons_succ])
    clear hold
    have HF1d := hid HF1.out.drew
    refine wpD_two 15 17 [(4, fun w' => w'.cell? ⟨b, 4, none⟩ = some (.int .i64 (ar : Int))), (10, fun w' => w'.cell? ⟨b, 5, none⟩ = some (.int .u32 (ep : Int)))] [(4, fun w' => w'.cell? ⟨b, 4, none⟩ = some (.int .i64 (ar : Int))), (10, fun w' => w'.cell? ⟨b, 5, none⟩ = some (.int .u32 (ep : Int)))] rfl rfl (by kernel_rfl) (by kernel_rfl) (by kernel_rfl) (by rfl) (by rfl) ?_ ?_
    · intro K15 hK15
      refine wp_call (.func 44) _ _ rfl 44 [] rfl hentTX [.string t] (by rfl) ?_
      refine (S.text_any t w1.drew (by rw [HSZ.out]; have := HIL.out; omega)).mono ?_
      rintro e w2 ⟨rfl, fw2⟩
      rw [HTD.out, HSM.out]
      have hold : Facts.hold [(4, fun w' => w'.cell? ⟨b, 4, none⟩ = some (.int .i64 (ar : Int))), (10, fun w' => w'.cell? ⟨b, 5, none⟩ = some (.int .u32 (ep : Int)))] w2 := Facts.cons_hold (fw2.cell (w := w1.drew) c4 id) (Facts.cons_hold (fw2.cell (w := w1.drew) c5 id) (Facts.nil_hold _))
      have d4w2 : w2.cell? ⟨b, 4, none⟩ = some (.int .i64 (ar : Int)) := fw2.cell (w := w1.drew) c4 id
      have d5w2 : w2.cell? ⟨b, 5, none⟩ = some (.int .u32 (ep : Int)) := fw2.cell (w := w1.drew) c5 id
      refine ⟨_, rfl, hK15 _ _ hold ?_⟩
      clear hK15 K15
      simp only [Act.put, List.setIfInBounds_toArray, List.set_cons_zero, List.set_cons_succ]
      (refine wpD_plain 16 (v := (.agg nx.cells.toArray)) rfl (by kernel_rfl) (by kernel_rfl) (by kernel_rfl) (fun _ _ _ h => h) (by rfl) ?_ (by assumption) ?_; (intro _w; go_simp; rw [HNC.out]; rfl); simp only [Act.put, List.setIfInBounds_toArray, List.set_cons_zero, List.set_cons_succ])
      refine wpD_only 17 [(4, fun w' => w'.cell? ⟨b, 4, none⟩ = some (.int .i64 (ar : Int))), (10, fun w' => w'.cell? ⟨b, 5, none⟩ = some (.int .u32 (ep : Int)))] rfl (by kernel_rfl) (by kernel_rfl) (by rfl) (fun K17 hK17 => ?_)
      refine wp_alloc _ rfl _ zeroRt' (Rt.cells ⟨0, 0, 0, 0⟩) rfl ?_
      intro w3 HBw3 Fw3 HSw3
      have fw3 := Fw3.out
      have hold : Facts.hold [(4, fun w' => w'.cell? ⟨b, 4, none⟩ = some (.int .i64 (ar : Int))), (10, fun w' => w'.cell? ⟨b, 5, none⟩ = some (.int .u32 (ep : Int)))] w3 := Facts.cons_hold (fw3.cell (w := w2) d4w2 id) (Facts.cons_hold (fw3.cell (w := w2) d5w2 id) (Facts.nil_hold _))
      have d4w3 : w3.cell? ⟨b, 4, none⟩ = some (.int .i64 (ar : Int)) := fw3.cell (w := w2) d4w2 id
      have d5w3 : w3.cell? ⟨b, 5, none⟩ = some (.int .u32 (ep : Int)) := fw3.cell (w := w2) d5w2 id
      refine hK17 _ _ hold ?_
      clear hK17 K17
      simp only [Act.put, List.setIfInBounds_toArray, List.set_cons_zero, List.set_cons_succ]
      have HBn := HBw3
      have HFn := hid (fw2.trans' fw3)
      have HBNW := hid (show w.heap.size ≤ w2.heap.size by have := HF1d.out.size; have := fw2.size; omega)
      clear fw2 fw3 d4w2 d5w2 d4w3 d5w3
      clear hold
      refine wpD_only 18 [] rfl (by kernel_rfl) (by kernel_rfl) (by rfl) (fun K18 hK18 => ?_)
      refine wp_storeB 66 _ _ rfl w2.heap.size 0 nx.cells rfl rfl _ _ HBn.out (by simp [Rt.cells]) (by rw [infoRt]; rfl) (rt_one _) ?_
      intro w4 HB4 F4 HS4
      refine hK18 _ _ (Facts.nil_hold _) ?_
      clear hK18 K18
      simp only [Act.put, List.setIfInBounds_toArray, List.set_cons_zero, List.set_cons_succ]
      refine wpD_done (by kernel_rfl) ?_ _
      have HF4 : Hid (Fr No w w4) := hid ((HF1d.out.trans' HFn.out).trans F4.out (fun k hk => .inr (by have e' : k = w2.heap.size := hk; have := HBNW.out; omega)))
      rw [spl_rt] at HB4
      have hq := HB4.out.range 0 nx.cells rfl
      obtain ⟨bn, hbn⟩ : ∃ k, w2.heap.size = k := ⟨_, rfl⟩
      rw [hbn] at hq ⊢
      clear hbn
      go_wp2_with (first
        | ((with_reducible show wpList _ _ _ (⟨_, .load 66 _, _, _, _, _⟩ :: _) _ _); refine wpL_load rfl _ _ rfl bn 0 rfl nx.cells _ hq rfl rfl infoRt ?_)
        | fail)
      refine (replace_any nx t (H.out.no HF4.out) HP.out HNO.out.1 HNO.out.2 (by rw [HSZ.out]; exact HIL.out)).mono ?_
      rintro e w5 ⟨rfl, O5, hS5, hF5, hG5⟩
      rw [HTD.out] at hS5 ⊢
      obtain ⟨p, hp⟩ : ∃ p, replS s nx img = p := ⟨_, rfl⟩
      rw [hp] at hS5 ⊢
      have HRP : Hid ((if p.1 ≠ 0 then (p.1, { p.2 with br := true }) else (0, p.2)) = R) := hid (by have h := HRF.out; rwa [hp] at h)
      obtain ⟨c, s5⟩ := p
      simp only at hS5 HRP ⊢
      have HS5 := hid hS5
      have HF5 : Hid (Fr O w w5) := hid (HF4.out.no.trans' hF5)
      have HG5 : Hid (Grows w O O5) := hid (fun k hk => (hG5 k hk).imp id (fun hge => by have := HF4.out.size; omega))
      clear hS5 hF5 hG5 hp hq
      by_cases hc : c = 0
      · have HRL : Hid (R = (0, s5)) := hid (by have h := HRP.out; rw [if_neg (by simp [hc])] at h; exact h.symm)
        subst hc
        go_wp2_with fail
        go_ret
        rw [HRL.out]
        exact ⟨rfl, O5, HS5.out, HF5.out, HG5.out⟩
      · have HRL : Hid (R = (c, { s5 with br := true })) := hid (by have h := HRP.out; rw [if_pos hc] at h; exact h.symm)
        obtain ⟨g8, z8⟩ := HS5.out.cell8
        go_wp2_with fail
        go_ret
        rw [HRL.out]
        refine ⟨rfl, O5, HS5.out.brk, HF5.out.setCell _ _ ((HG5.out b HS5.out.own).imp id id), HG5.out⟩
    · intro K17 hK17
      refine wp_alloc _ rfl _ zeroRt' (Rt.cells ⟨0, 0, 0, 0⟩) rfl ?_
      intro w2 HBw2 Fw2 HSw2
      have fw2 := Fw2.out
      have hold : Facts.hold [(4, fun w' => w'.cell? ⟨b, 4, none⟩ = some (.int .i64 (ar : Int))), (10, fun w' => w'.cell? ⟨b, 5, none⟩ = some (.int .u32 (ep : Int)))] w2 := Facts.cons_hold (fw2.cell (w := w1.drew) c4 id) (Facts.cons_hold (fw2.cell (w := w1.drew) c5 id) (Facts.nil_hold _))
      have d4w2 : w2.cell? ⟨b, 4, none⟩ = some (.int .i64 (ar : Int)) := fw2.cell (w := w1.drew) c4 id
      have d5w2 : w2.cell? ⟨b, 5, none⟩ = some (.int .u32 (ep : Int)) := fw2.cell (w := w1.drew) c5 id
      refine hK17 _ _ hold ?_
      clear hK17 K17
      simp only [Act.put, List.setIfInBounds_toArray, List.set_cons_zero, List.set_cons_succ]
      clear hold
      refine wpD_only 15 [(4, fun w' => w'.cell? ⟨b, 4, none⟩ = some (.int .i64 (ar : Int))), (10, fun w' => w'.cell? ⟨b, 5, none⟩ = some (.int .u32 (ep : Int)))] rfl (by kernel_rfl) (by kernel_rfl) (by rfl) (fun K15 hK15 => ?_)
      refine wp_call (.func 44) _ _ rfl 44 [] rfl hentTX [.string t] (by rfl) ?_
      refine (S.text_any t w2 (by rw [HSZ.out]; have := HIL.out; omega)).mono ?_
      rintro e w3 ⟨rfl, fw3⟩
      rw [HTD.out, HSM.out]
      have hold : Facts.hold [(4, fun w' => w'.cell? ⟨b, 4, none⟩ = some (.int .i64 (ar : Int))), (10, fun w' => w'.cell? ⟨b, 5, none⟩ = some (.int .u32 (ep : Int)))] w3 := Facts.cons_hold (fw3.cell (w := w2) d4w2 id) (Facts.cons_hold (fw3.cell (w := w2) d5w2 id) (Facts.nil_hold _))
      have d4w3 : w3.cell? ⟨b, 4, none⟩ = some (.int .i64 (ar : Int)) := fw3.cell (w := w2) d4w2 id
      have d5w3 : w3.cell? ⟨b, 5, none⟩ = some (.int .u32 (ep : Int)) := fw3.cell (w := w2) d5w2 id
      refine ⟨_, rfl, hK15 _ _ hold ?_⟩
      clear hK15 K15
      simp only [Act.put, List.setIfInBounds_toArray, List.set_cons_zero, List.set_cons_succ]
      (refine wpD_plain 16 (v := (.agg nx.cells.toArray)) rfl (by kernel_rfl) (by kernel_rfl) (by kernel_rfl) (fun _ _ _ h => h) (by rfl) ?_ (by assumption) ?_; (intro _w; go_simp; rw [HNC.out]; rfl); simp only [Act.put, List.setIfInBounds_toArray, List.set_cons_zero, List.set_cons_succ])
      have HBn := hid (HBw2.out.fr fw3 id)
      have HFn := hid (fw2.trans' fw3)
      have HBNW := hid (show w.heap.size ≤ w1.drew.heap.size from HF1d.out.size)
      clear fw2 fw3 d4w2 d5w2 d4w3 d5w3
      clear hold
      refine wpD_only 18 [] rfl (by kernel_rfl) (by kernel_rfl) (by rfl) (fun K18 hK18 => ?_)
      refine wp_storeB 66 _ _ rfl w1.drew.heap.size 0 nx.cells rfl rfl _ _ HBn.out (by simp [Rt.cells]) (by rw [infoRt]; rfl) (rt_one _) ?_
      intro w4 HB4 F4 HS4
      refine hK18 _ _ (Facts.nil_hold _) ?_
      clear hK18 K18
      simp only [Act.put, List.setIfInBounds_toArray, List.set_cons_zero, List.set_cons_succ]
      refine wpD_done (by kernel_rfl) ?_ _
      have HF4 : Hid (Fr No w w4) := hid ((HF1d.out.trans' HFn.out).trans F4.out (fun k hk => .inr (by have e' : k = w1.drew.heap.size := hk; have := HBNW.out; omega)))
      rw [spl_rt] at HB4
      have hq := HB4.out.range 0 nx.cells rfl
      obtain ⟨bn, hbn⟩ : ∃ k, w1.drew.heap.size = k := ⟨_, rfl⟩
      rw [hbn] at hq ⊢
      clear hbn
      go_wp2_with (first
        | ((with_reducible show wpList _ _ _ (⟨_, .load 66 _, _, _, _, _⟩ :: _) _ _); refine wpL_load rfl _ _ rfl bn 0 rfl nx.cells _ hq rfl rfl infoRt ?_)
        | fail)
      refine (replace_any nx t (H.out.no HF4.out) HP.out HNO.out.1 HNO.out.2 (by rw [HSZ.out]; exact HIL.out)).mono ?_
      rintro e w5 ⟨rfl, O5, hS5, hF5, hG5⟩
      rw [HTD.out] at hS5 ⊢
      obtain ⟨p, hp⟩ : ∃ p, replS s nx img = p := ⟨_, rfl⟩
      rw [hp] at hS5 ⊢
      have HRP : Hid ((if p.1 ≠ 0 then (p.1, { p.2 with br := true }) else (0, p.2)) = R) := hid (by have h := HRF.out; rwa [hp] at h)
      obtain ⟨c, s5⟩ := p
      simp only at hS5 HRP ⊢
      have HS5 := hid hS5
      have HF5 : Hid (Fr O w w5) := hid (HF4.out.no.trans' hF5)
      have HG5 : Hid (Grows w O O5) := hid (fun k hk => (hG5 k hk).imp id (fun hge => by have := HF4.out.size; omega))
      clear hS5 hF5 hG5 hp hq
      by_cases hc : c = 0
      · have HRL : Hid (R = (0, s5)) := hid (by have h := HRP.out; rw [if_neg (by simp [hc])] at h; exact h.symm)
        subst hc
        go_wp2_with fail
        go_ret
        rw [HRL.out]
        exact ⟨rfl, O5, HS5.out, HF5.out, HG5.out⟩
      · have HRL : Hid (R = (c, { s5 with br := true })) := hid (by have h := HRP.out; rw [if_pos hc] at h; exact h.symm)
        obtain ⟨g8, z8⟩ := HS5.out.cell8
        go_wp2_with fail
        go_ret
        rw [HRL.out]
        refine ⟨rfl, O5, HS5.out.brk, HF5.out.setCell _ _ ((HG5.out b HS5.out.own).imp id id), HG5.out⟩
end
end Go.Proofs.YtflfmkokfbgclaaGreat.ST

namespace Go.Proofs.YtflfmkokfbgclaaGreat.ST
set_option maxRecDepth 100000
open Go.RowKit K L

def mrS (s : Sd) (n : Int) : Int × Sd := if n ≤ (s.g.count : Int) - s.g.next then (0, s) else
  if (ckS s).1 ≠ 0 then ckS s else if (((ckS s).2.g.count : Int) - (ckS s).2.g.next) < n then (3, (ckS s).2) else (0, (ckS s).2)
def apS (s : Sd) (x : List UInt8) : Int × Sd := if (s.u.append s.g x).1 ≠ 0 then ((s.u.append s.g x).1, { s with u := (s.u.append s.g x).2.1, g := (s.u.append s.g x).2.2 })
  else ((s.u.append s.g x).2.1.flush.1, { s with u := (s.u.append s.g x).2.1.flush.2, g := (s.u.append s.g x).2.2 })
section
variable {W w w' : World} {b bd bg bt : Nat} {O Z Z' : Nat → Prop} {T : TR.TD} {s : Sd} {u' : U} {g' : Lg}
theorem StM.log (h : StM W w b bd bg bt Z T s) (hZW : ∀ k, Z k → W.heap.size ≤ k) (hW : W.heap.size ≤ bg) (ha : L.At w' bg bd Z' g' u') (f : Fr (fun k => Z k ∨ k = bg) w w') (hg : Grows w Z Z') : StM W w' b bd bg bt Z' T { s with u := u', g := g' } where
  a := ha
  c := h.c.fr f (fun k hk => by
    rcases hk with hk | rfl
    · exact ⟨(h.z k hk).1, (h.z k hk).2, hZW k hk⟩
    · exact ⟨h.g, h.n, hW⟩)
  g := h.g
  n := h.n
  z := fun k hk => by
    rcases hg k hk with h1 | h1
    · exact h.z k h1
    · refine ⟨fun e => ?_, fun e => ?_⟩
      · have := h.c.t.at_.lt k e; omega
      · have := h.c.blk.lt; omega
theorem gi {g : Lg} {n : Nat} (h : g.Ok n) (hn : n ≤ 4096) : -4096 ≤ (g.count : Int) - g.next ∧ (g.count : Int) - g.next ≤ 4096 := by
  have := h.fit; have := h.nc; omega
set_option maxHeartbeats 16000000 in
theorem makeRoom_any (n : Int) (h : Sto W w b bd O s) (hp : s.u.P.length < 400000) (hi : imgN s.l ≤ 500000) (hl : s.l.length ≤ 100000) :
    Calls Tryz.prog 37 #[pt b, .int .i64 n] w (StP W w b bd O (mrS s n)) := by
  obtain ⟨bg, bt, Z, T, hM, hO⟩ := h.split
  have H := hid h; have HM := hid hM; have HP := hid hp; have HI := hid hi; have HL := hid hl
  obtain ⟨R, hR⟩ : ∃ R, mrS s n = R := ⟨_, rfl⟩
  have HRE := hid hR
  rw [hR]
  have q1 : w.cell? ⟨b, 1, none⟩ = some (pt bg) := hM.c.blk.cell 1
  have HRM := hid (room_any hM.a)
  obtain ⟨rm, hrm⟩ : ∃ r, (s.g.count : Int) - s.g.next = r := ⟨_, rfl⟩
  rw [hrm] at HRM
  have HRM' := hid hrm
  clear h hM hO hp hi hl hR hrm
  go_enter Tryz.func37, Tryz.ntmps37
  go_wp2_with fail
  refine HRM.out.mono ?_
  rintro e w1 ⟨rfl, f1⟩
  have HF1 := hid f1
  clear f1 q1
  by_cases hn : n ≤ rm
  · have HRF : Hid (R = (0, s)) := hid (by rw [← HRE.out]; unfold mrS; rw [HRM'.out, if_pos hn])
    go_wp2_with fail
    go_ret
    rw [HRF.out]
    exact ⟨rfl, O, H.out.no HF1.out, HF1.out.no, fun _ h => .inl h⟩
  · have HRF : Hid ((if (ckS s).1 ≠ 0 then ckS s else if (((ckS s).2.g.count : Int) - (ckS s).2.g.next) < n then (3, (ckS s).2) else (0, (ckS s).2)) = R) := hid (by rw [← HRE.out]; unfold mrS; rw [HRM'.out, if_neg hn])
    go_wp2_with fail
    refine (checkpoint_any (H.out.no HF1.out) HP.out HI.out HL.out).mono ?_
    rintro e w2 ⟨rfl, O2, hS2, hF2, hG2⟩
    obtain ⟨p, hp⟩ : ∃ p, ckS s = p := ⟨_, rfl⟩
    rw [hp] at hS2 ⊢
    have HRP : Hid ((if p.1 ≠ 0 then p else if ((p.2.g.count : Int) - p.2.g.next) < n then (3, p.2) else (0, p.2)) = R) := hid (by have h := HRF.out; rwa [hp] at h)
    obtain ⟨c, s2⟩ := p
    simp only at hS2 HRP ⊢
    have HS2 := hid hS2
    have HF2 : Hid (Fr O w w2) := hid (HF1.out.no.trans' hF2)
    have HG2 : Hid (Grows w O O2) := hid (fun k hk => (hG2 k hk).imp id (fun hge => by have := HF1.out.size; omega))
    clear hS2 hF2 hG2 hp
    by_cases hc : c = 0
    · subst hc
      obtain ⟨bg2, bt2, Z2, T2, hM2, hO2⟩ := HS2.out.split
      have q2 : w2.cell? ⟨b, 1, none⟩ = some (pt bg2) := hM2.c.blk.cell 1
      have HRM2 := hid (room_any hM2.a)
      obtain ⟨r2, hr2⟩ : ∃ r, (s2.g.count : Int) - s2.g.next = r := ⟨_, rfl⟩
      rw [hr2] at HRM2
      have HRQ : Hid ((if r2 < n then (3, s2) else (0, s2)) = R) := hid (by have h := HRP.out; rw [if_neg (by simp), hr2] at h; exact h)
      clear hM2 hO2 hr2
      go_wp2_with fail
      refine HRM2.out.mono ?_
      rintro e w3 ⟨rfl, f3⟩
      have HF3 := hid f3
      clear f3 q2
      have hS3 := hid (HS2.out.no HF3.out)
      by_cases hn2 : r2 < n
      · have HRL : Hid (R = (3, s2)) := hid (by have h := HRQ.out; rw [if_pos hn2] at h; exact h.symm)
        go_wp2_with fail
        go_ret
        rw [HRL.out]
        exact ⟨rfl, O2, hS3.out, HF2.out.trans HF3.out (fun _ hk => hk.elim), HG2.out⟩
      · have HRL : Hid (R = (0, s2)) := hid (by have h := HRQ.out; rw [if_neg hn2] at h; exact h.symm)
        go_wp2_with fail
        go_ret
        rw [HRL.out]
        exact ⟨rfl, O2, hS3.out, HF2.out.trans HF3.out (fun _ hk => hk.elim), HG2.out⟩
    · have HRL : Hid (R = (c, s2)) := hid (by have h := HRP.out; rw [if_pos hc] at h; exact h.symm)
      go_wp2_with fail
      go_ret
      rw [HRL.out]
      exact ⟨rfl, O2, HS2.out, HF2.out, HG2.out⟩
set_option maxHeartbeats 16000000 in
theorem appendDurably_any (x : S) (h : Sto W w b bd O s) (hp : s.u.P.length < 400000) (hx : x.size ≤ 1000000) :
    Calls Tryz.prog 39 #[pt b, .string x] w (StP W w b bd O (apS s x.data.toList)) := by
  obtain ⟨bg, bt, Z, T, hM, hO⟩ := h.split
  have H := hid h; have HM := hid hM; have HO := hid hO; have HX := hid hx; have HP := hid hp
  have HZW := hid (fun k (hk : Z k) => (h.ow k (hO k (.inl hk))).1)
  have HGW := hid (h.ow bg (hO bg (.inr (.inr (.inr rfl)))))
  obtain ⟨R, hR⟩ : ∃ R, apS s x.data.toList = R := ⟨_, rfl⟩
  have HRE := hid hR
  rw [hR]
  have q1 : w.cell? ⟨b, 1, none⟩ = some (pt bg) := hM.c.blk.cell 1
  clear h hM hO hp hx hR
  go_enter Tryz.func39, Tryz.ntmps39
  go_wp2_with fail
  refine (append_any w bg bd Z s.g s.u x HM.out.a (by have := HX.out; omega) (by have := HP.out; omega)).mono ?_
  rintro e w1 ⟨rfl, Z1, ha, hf, hg⟩
  obtain ⟨p, hp⟩ : ∃ p, s.u.append s.g x.data.toList = p := ⟨_, rfl⟩
  have hpl : p.2.1.L.length = s.u.L.length := by rw [← hp]; simp
  rw [hp] at ha ⊢
  have HRP : Hid ((if p.1 ≠ 0 then (p.1, { s with u := p.2.1, g := p.2.2 }) else (p.2.1.flush.1, { s with u := p.2.1.flush.2, g := p.2.2 })) = R) := hid (by have h := HRE.out; unfold apS at h; rwa [hp] at h)
  obtain ⟨c, u1, g1⟩ := p
  simp only at ha HRP hpl ⊢
  have HM1 := hid (HM.out.log HZW.out HGW.out.1 ha hf hg)
  have HZ1W := hid (fun k (hk : Z1 k) => show W.heap.size ≤ k from (hg k hk).elim (HZW.out k) (fun hge => by have := HGW.out; omega))
  have HG1 := hid hg
  have HF1 : Hid (Fr O w w1) := hid (frO hf (fun k hk => hk.elim (fun h => HO.out k (.inl h)) (fun h => HO.out k (.inr (.inr (.inr h))))))
  have HPL := hid hpl
  clear ha hf hg hp q1 hpl
  have fin : ∀ (w' : World) (s' : Sd), StM W w' b bd bg bt Z1 T s' → s'.r.area ≤ 1 → s'.r.Ok → 32 ≤ s'.u.L.length → Fr O w w' → ∃ O', Sto W w' b bd O' s' ∧ Fr O w w' ∧ Grows w O O' := by
    intro w' s' h1 h4 h5 h6 h7
    refine ⟨_, h1.sto HZ1W.out HGW.out.1 h4 h5 h6, h7, ?_⟩
    rintro k (hk | hk | rfl | rfl)
    · exact (HG1.out k hk).imp (fun h => HO.out k (.inl h)) id
    · exact .inl (HO.out k (.inr (.inl hk)))
    · exact .inl (HO.out _ (.inr (.inr (.inl rfl))))
    · exact .inl (HO.out _ (.inr (.inr (.inr rfl))))
  have FIN := hid fin
  clear fin
  by_cases hc : c = 0
  · have HRL : Hid (R = (u1.flush.1, { s with u := u1.flush.2, g := g1 })) := hid (by have h := HRP.out; rw [if_neg (by simp [hc])] at h; exact h.symm)
    subst hc
    have q1 : w1.cell? ⟨b, 1, none⟩ = some (pt bg) := HM1.out.c.blk.cell 1
    go_wp2_with fail
    refine (sync_any HM1.out.a).mono ?_
    rintro e w2 ⟨rfl, ha2, hf2⟩
    go_wp2_with fail
    go_ret
    rw [HRL.out]
    have hg0 : Grows w1 Z1 Z1 := fun _ h => .inl h
    have hm2 : StM W w2 b bd bg bt Z1 T { s with u := u1.flush.2, g := g1 } := HM1.out.log HZ1W.out HGW.out.1 ha2 (frO hf2 (fun k hk => .inl hk)) hg0
    exact ⟨rfl, FIN.out w2 _ hm2 H.out.area H.out.rok (by show 32 ≤ u1.flush.2.L.length; rw [flush_L, HPL.out]; exact H.out.big) (HF1.out.trans hf2 (fun k hk => (HG1.out k hk).imp (fun h => HO.out k (.inl h)) id))⟩
  · have HRL : Hid (R = (c, { s with u := u1, g := g1 })) := hid (by have h := HRP.out; rw [if_pos hc] at h; exact h.symm)
    go_wp2_with fail
    go_ret
    rw [HRL.out]
    exact ⟨rfl, FIN.out w1 _ HM1.out H.out.area H.out.rok (by show 32 ≤ u1.L.length; rw [HPL.out]; exact H.out.big) HF1.out⟩
set_option maxHeartbeats 4000000 in
theorem epoch_any (h : Sto W w b bd O s) : Calls Tryz.prog 24 #[pt b] w fun e w' => e = .returned (.int .u32 (s.r.epoch : Int)) ∧ w = w' := by
  obtain ⟨bg, bt, Z, T, hM, hO⟩ := h.split
  have q1 : w.cell? ⟨b, 5, none⟩ = some (.int .u32 (s.r.epoch : Int)) := hM.c.blk.cell 5
  clear h hM hO
  go_enter Tryz.func24, Tryz.ntmps24
  go_wp2_with fail
  go_ret
  exact ⟨rfl, rfl⟩
set_option maxHeartbeats 4000000 in
theorem tree_any (h : Sto W w b bd O s) : Calls Tryz.prog 46 #[pt b] w fun e w' => w = w' ∧ ∃ bt T, e = .returned (pt bt) ∧ TR.Lv W w bt T s.l ∧ Mays s.l := by
  obtain ⟨bg, bt, Z, T, hM, hO⟩ := h.split
  have q1 : w.cell? ⟨b, 2, none⟩ = some (pt bt) := hM.c.blk.cell 2
  have HT := hid (And.intro hM.c.t hM.c.m)
  clear h hM hO
  go_enter Tryz.func46, Tryz.ntmps46
  go_wp2_with fail
  go_ret
  exact ⟨rfl, bt, T, rfl, HT.out.1, HT.out.2⟩
end
end Go.Proofs.YtflfmkokfbgclaaGreat.ST
