/-
  Part 33 of the proof: StOp, StRp.
-/
import Derived.Test.YtejbanlhgnlliaaGreatPt32
namespace Go.Proofs.YtejbanlhgnlliaaGreat.ST
set_option maxRecDepth 100000
open Go.RowKit K L

/-- A store as data, with its disk. -/
structure Sd where
  l : TR.L
  r : Rt
  g : Lg
  br : Bool
  u : U
/-- A store in memory; what it owns lies in O. -/
structure Sto (W w : World) (b bd : Nat) (O : Nat → Prop) (s : Sd) : Prop where
  mem : ∃ bg bt Z T, L.At w bg bd Z s.g s.u ∧ Ct W w b 2 68 (stC bd (pt bg) (pt bt) 0 s.r s.br) bt T s.l ∧ ¬ T.fp bg ∧ bg ≠ b ∧ (∀ k, Z k → ¬ T.fp k ∧ k ≠ b) ∧ (∀ k, Z k ∨ T.fp k ∨ k = b ∨ k = bg → O k)
  ow : ∀ k, O k → W.heap.size ≤ k ∧ k < w.heap.size
  area : s.r.area ≤ 1
  rok : s.r.Ok
  big : 32 ≤ s.u.L.length
/-- What Open gives: the error, the disk, the store. -/
def openS (u : U) : Int × U × Option Sd :=
  if u.L.length < 32 then (1, u, none) else match loadS u with
    | (c, none) => (c, u, none)
    | (_, some (r, l)) => match logS u r.epoch l with
      | (c, u', none) => (c, u', none)
      | (_, u', some (g, l')) => (0, u', some ⟨l', r, g, false, u'⟩)
theorem loadS_none {u : U} {c : Int} (h : loadS u = (c, none)) : c ≠ 0 := by
  unfold loadS at h
  split at h
  · rename_i hh; simp only [Prod.mk.injEq, and_true] at h; rw [← h]; exact hh
  · split at h
    · simp only [Prod.mk.injEq, and_true] at h; rw [← h]; decide
    · split at h
      · simp at h
      · simp only [Prod.mk.injEq, and_true] at h; rw [← h]; decide
theorem logS_none {u u' : U} {ep : Nat} {l : TR.L} {c : Int} (h : logS u ep l = (c, u', none)) : c ≠ 0 := by
  unfold logS at h
  split at h
  · rename_i hh; simp only [Prod.mk.injEq, and_true] at h; rw [← h.1]; exact olog_none hh
  · split at h
    · simp only [Prod.mk.injEq, and_true] at h; rw [← h.1]; decide
    · simp at h
theorem conG_len : ∀ (n : Nat) (s last : S) (l l' : TR.L), conG n s last l = some l' → l'.length ≤ l.length + s.size
  | 0, s, _, l, l', h => by simp only [conG, Option.some.injEq] at h; rw [← h]; omega
  | n + 1, s, last, l, l', h => by
    unfold conG at h
    by_cases h0 : s.size = 0
    · rw [if_pos h0] at h; simp only [Option.some.injEq] at h; rw [← h]; omega
    · rw [if_neg h0] at h
      cases hc : cutS s with
      | none => rw [hc] at h; cases h
      | some p =>
        rw [hc] at h
        obtain ⟨c, r⟩ := p
        simp only at h
        split at h
        · cases h
        · have h1 := conG_len n r c.key _ l' h
          have h2 := app_length l c
          have h3 := cut_less hc
          omega
theorem loadS_len {u : U} {c : Int} {r : Rt} {l : TR.L} (hn : u.L.length ≤ 4096) (h : loadS u = (c, some (r, l))) : l.length ≤ 1000000 ∧ r = (rootU u).1 ∧ (rootU u).2 = 0 := by
  unfold loadS at h
  split at h
  · simp at h
  · rename_i h0
    have h0 : (rootU u).2 = 0 := Decidable.not_not.1 h0
    split at h
    · simp at h
    · rename_i l' hl'
      split at h
      · simp only [Prod.mk.injEq, Option.some.injEq] at h
        obtain ⟨_, h1, h2⟩ := h
        refine ⟨?_, h1.symm, h0⟩
        have hc := conG_len _ _ _ _ _ hl'
        have hi := imgB_len u (rootU u).1
        have hr := (rootU_ok h0).2.2
        rw [← h2]
        have hs : (ByteArray.mk (imgB u (rootU u).1).toArray).size = (imgB u (rootU u).1).length := by show (imgB u (rootU u).1).toArray.size = _; simp
        rw [hs] at hc
        unfold areaN at hr
        simp only [List.length_nil] at hc
        omega
      · simp at h
theorem opens_L (u : U) (first count e : Nat) : (u.opens first count e).2.1.L.length = u.L.length := by
  have hb : (u.begin first).2.1.L.length = u.L.length := by
    unfold U.begin
    split
    · rfl
    · simp only
      split
      · rfl
      · split
        · simp only [write_L]
        · simp only [flush_L, write_L]
  unfold U.opens
  simp only
  split <;> exact hb
theorem logS_len {u u' : U} {ep : Nat} {l : TR.L} {c : Int} {o : Option (Lg × TR.L)} (h : logS u ep l = (c, u', o)) : u'.L.length = u.L.length := by
  have ho : (U.olog u ep).2.1.L.length = u.L.length := opens_L _ _ _ _
  unfold logS at h
  split at h
  · simp only [Prod.mk.injEq] at h; rw [← h.2.1]; exact ho
  · split at h <;> (simp only [Prod.mk.injEq] at h; rw [← h.2.1]; exact ho)
def OpenS (W w : World) (bd : Nat) (Z : Nat → Prop) (p : Int × U × Option Sd) (e : Ending) (w' : World) : Prop := match p with
  | (c, u', none) => e = .returned (.tuple #[.pointer none, .int .i64 c]) ∧ ∃ Z', Dk w' bd Z' u' ∧ Fr Z w w' ∧ Grows w Z Z'
  | (_, _, some s) => ∃ b O, e = .returned (.tuple #[pt b, .int .i64 0]) ∧ Sto W w' b bd O s ∧ Fr Z w w' ∧ Grows w Z O
theorem buildVol (bd : Nat) (w : World) : (Instr.build 59 #[(0, pt bd)]).run Tryz.prog w = .ok (.agg #[pt bd]) w := by kernel_rfl
theorem buildSto (bd : Nat) (w : World) : (Instr.build 68 #[(0, .agg #[pt bd])]).run Tryz.prog w = .ok (.agg (stC bd (.pointer none) (.pointer none) 0 ⟨0, 0, 0, 0⟩ false).toArray) w := by kernel_rfl
section
variable {w : World} {bd : Nat} {Z : Nat → Prop} {u : U}
set_option maxHeartbeats 16000000 in
theorem open_any (W : World) (h : Dk w bd Z u) (hp : u.P.length < 1000000) (hW : Fr No W w) (hZW : ∀ k, Z k → W.heap.size ≤ k) :
    Calls Tryz.prog 14 #[pt bd] w (OpenS W w bd Z (openS u)) := by
  have H := hid h
  have HW := hid hW; have HZW := hid hZW; have HP := hid hp
  have HZL := hid h.lt
  have hl := dk_len h
  have hli : (u.L.length : Int) ≤ 4096 := by omega
  have HN := hid hl
  have HDS := hid (dsectors_any h)
  obtain ⟨R, hR⟩ : ∃ R, openS u = R := ⟨_, rfl⟩
  have HR := hid hR
  rw [hR]
  clear h hW hZW hp hl hR
  obtain ⟨n, hn⟩ : ∃ n, u.L.length = n := ⟨_, rfl⟩
  have HNN := hid hn
  rw [hn] at hli HDS
  by_cases h32 : n < 32
  · have HRN : Hid (R = (1, u, none)) := hid (by rw [← HR.out]; unfold openS; rw [HNN.out, if_pos h32])
    have h32i : (n : Int) < 32 := by omega
    clear hn
    go_enter Tryz.func14, Tryz.ntmps14
    go_wp2_with fail
    refine HDS.out.mono ?_
    rintro e wq ⟨rfl, rfl⟩
    go_wp2_with fail
    go_ret2
    rw [HRN.out]
    exact ⟨rfl, Z, H.out, Fr.refl _ _, Grows.refl _ _⟩
  · have h32i : ¬ (n : Int) < 32 := by omega
    have H32 : Hid (32 ≤ u.L.length) := hid (by rw [hn]; omega)
    have HRN : Hid ((match loadS u with
      | (c, none) => (c, u, none)
      | (_, some (r, l)) => match logS u r.epoch l with
        | (c, u', none) => (c, u', none)
        | (_, u', some (g, l')) => (0, u', some ⟨l', r, g, false, u'⟩)) = R) := hid (by rw [← HR.out]; unfold openS; rw [HNN.out, if_neg h32])
    clear hn h32
    go_enter Tryz.func14, Tryz.ntmps14
    go_wp2_with fail
    refine HDS.out.mono ?_
    rintro e wq ⟨rfl, rfl⟩
    go_wp2_with (first
      | ((with_reducible show wpList _ _ _ ({ dst := _, op := .build 59 _, type := _, pos := _, after := _, guard := _ } :: _) _ _); refine wpL_build rfl _ [(0, .tmp 10)] rfl (.agg #[pt bd]) (buildVol bd _) ?_)
      | ((with_reducible show wpList _ _ _ ({ dst := _, op := .build 68 _, type := _, pos := _, after := _, guard := _ } :: _) _ _); refine wpL_build rfl _ [(0, .tmp 11)] rfl (.agg (stC bd (.pointer none) (.pointer none) 0 ⟨0, 0, 0, 0⟩ false).toArray) (buildSto bd _) ?_)
      | ((with_reducible show wpList _ _ _ ({ dst := _, op := .box 68 _, type := _, pos := _, after := _, guard := _ } :: _) _ _); refine wpL_box rfl _ _ rfl _ rfl (stC bd (.pointer none) (.pointer none) 0 ⟨0, 0, 0, 0⟩ false) rfl ?_; intro w1 HB1 F1 HS1)
      | fail)
    obtain ⟨b, hb⟩ : ∃ k, w.heap.size = k := ⟨_, rfl⟩
    have HBE := hid hb
    rw [hb] at HB1 ⊢
    clear hb
    refine (loadImage_any W b (.pointer none) false (D.Rep.no H.out F1.out) HB1.out (HW.out.trans' F1.out) (by have := HW.out.size; have := HBE.out; omega)).mono ?_
    intro e w2 hld
    have HD2 := hid (D.Rep.no H.out F1.out)
    cases hq : loadS u with
    | mk c o =>
    rw [hq] at hld
    cases o with
    | none =>
      obtain ⟨rfl, f2⟩ := hld
      have hc := loadS_none hq
      have HRL : Hid (R = (c, u, none)) := hid (by rw [← HRN.out, hq])
      have HF2 := hid f2
      clear f2 hq
      go_wp2_with fail
      go_ret2
      rw [HRL.out]
      exact ⟨rfl, Z, D.Rep.no HD2.out HF2.out, (F1.out.trans' HF2.out).no, Grows.refl _ _⟩
    | some p =>
      obtain ⟨r, l⟩ := p
      obtain ⟨bt, T, rfl, hT, hTn, hM, hB2, f2⟩ := hld
      obtain ⟨hlen, hr1, hr2⟩ := loadS_len HN.out.2 hq
      have HLN := hid hlen
      have HT := hid hT; have HTN := hid hTn; have HM := hid hM; have HB2 := hid hB2; have HF2 := hid f2
      have HROK : Hid (r.Ok ∧ r.area ≤ 1) := hid (by rw [hr1]; exact ⟨rootU_Ok u, (rootU_ok hr2).2.1⟩)
      have HRL : Hid ((match logS u r.epoch l with
        | (c, u', none) => (c, u', none)
        | (_, u', some (g, l')) => (0, u', some ⟨l', r, g, false, u'⟩)) = R) := hid (by have h := HRN.out; rw [hq] at h; exact h)
      clear hT hTn hM hB2 f2 hlen hr1 hr2 hq
      have h1s := HS1.out
      have hbe := HBE.out
      have hws := HW.out.size
      have HZB := hid (show ¬ Z b from fun hz => by have := HZL.out _ hz; omega)
      have HCt := hid (show Ct W w2 b 2 68 (stC bd (.pointer none) (pt bt) 0 r false) bt T l from
        ⟨HT.out, HB2.out, rfl, by simp [stC], fun e => by have := HTN.out _ e; omega, by omega, HM.out⟩)
      have HD3 : Hid (Dk w2 bd Z u) := hid (D.Rep.fr HD2.out HF2.out (fun k hk e => HZB.out (by have e' : k = b := e; rw [← e']; exact hk)))
      clear h1s hbe hws
      go_wp2_with fail
      refine (loadLog_any W b bt r false T l HD3.out HCt.out H32.out HROK.out.1.e HP.out HLN.out HZW.out (fun k hk e => by have := HTN.out _ e; have := HZL.out k hk; have := F1.out.size; omega) HZB.out).mono ?_
      intro e w3 hlg
      have f13 : Fr Z w w2 := (F1.out.no).trans HF2.out (fun k hk => .inr (by have e' : k = b := hk; have := HBE.out; omega))
      have HF13 := hid f13
      have hTn' : ∀ k, T.fp k ∨ k = b → w.heap.size ≤ k := fun k hk => by
        rcases hk with hk | hk
        · have := HTN.out k hk; have := F1.out.size; omega
        · have := HBE.out; omega
      have HTN' := hid hTn'
      clear f13 hTn'
      cases hq : logS u r.epoch l with
      | mk c o =>
      obtain ⟨u', o⟩ := o
      rw [hq] at hlg
      cases o with
      | none =>
        obtain ⟨rfl, Z', hd, hf, hg⟩ := hlg
        have hc := logS_none hq
        have HRF : Hid (R = (c, u', none)) := hid (by rw [← HRL.out, hq])
        have HDD := hid hd; have HFF := hid hf; have HGG := hid hg
        clear hd hf hg hq
        go_wp2_with fail
        go_ret2
        rw [HRF.out]
        refine ⟨rfl, Z', HDD.out, HF13.out.trans HFF.out (fun k hk => ?_), fun k hk => (HGG.out k hk).imp id (fun hge => by have := HF13.out.size; omega)⟩
        rcases hk with hk | hk
        · exact .inl hk
        · exact .inr (HTN'.out k hk)
      | some p =>
        obtain ⟨g, l'⟩ := p
        obtain ⟨bg, T', Z', rfl, hat, hct, hbg, hnb, hzt, hf, hg, htp⟩ := hlg
        have HRF : Hid (R = (0, u', some ⟨l', r, g, false, u'⟩)) := hid (by rw [← HRL.out, hq])
        have HAT := hid hat; have HCT := hid hct; have HBG := hid hbg; have HNB := hid hnb; have HZT := hid hzt; have HFF := hid hf; have HGG := hid hg; have HTP := hid htp
        have HUL : Hid (u'.L.length = u.L.length) := hid (logS_len hq)
        clear hat hct hbg hnb hzt hf hg htp hq
        go_wp2_with fail
        go_ret2
        rw [HRF.out]
        have h13 := HF13.out.size
        have h12 := F1.out.size
        have h2b := HB2.out.lt
        refine ⟨b, fun k => Z' k ∨ T'.fp k ∨ k = b ∨ k = bg, rfl, ⟨⟨bg, bt, Z', T', HAT.out, HCT.out, HNB.out, fun e => by have := HBG.out; omega, HZT.out, fun k hk => hk⟩, ?_, HROK.out.2, HROK.out.1, by rw [HUL.out]; exact H32.out⟩, HF13.out.trans HFF.out (fun k hk => hk.elim .inl (fun h => .inr (HTN'.out k h))), ?_⟩
        · have hW := HW.out.size
          rintro k (hk | hk | rfl | rfl)
          · refine ⟨?_, HAT.out.1.lt k hk⟩
            rcases HGG.out k hk with h | h
            · exact HZW.out k h
            · omega
          · refine ⟨?_, HCT.out.t.at_.lt k hk⟩
            exact HCT.out.t.ge k hk
          · exact ⟨HCT.out.bw, HCT.out.blk.lt⟩
          · exact ⟨by have := HBG.out; omega, HAT.out.2.1.lt⟩
        · rintro k (hk | hk | rfl | rfl)
          · exact (HGG.out k hk).imp id (fun h => by omega)
          · rcases HTP.out k hk with h | h
            · exact .inr (HTN'.out k (.inl h))
            · exact .inr (by omega)
          · exact .inr (by have := HBE.out; omega)
          · exact .inr (by have := HBG.out; omega)
end
end Go.Proofs.YtejbanlhgnlliaaGreat.ST

namespace Go.Proofs.YtejbanlhgnlliaaGreat.ST
set_option maxRecDepth 100000
open Go.RowKit K L

structure StM (W w : World) (b bd bg bt : Nat) (Z : Nat → Prop) (T : TR.TD) (s : Sd) : Prop where
  a : L.At w bg bd Z s.g s.u
  c : Ct W w b 2 68 (stC bd (pt bg) (pt bt) 0 s.r s.br) bt T s.l
  g : ¬ T.fp bg
  n : bg ≠ b
  z : ∀ k, Z k → ¬ T.fp k ∧ k ≠ b
theorem Sto.split {W w : World} {b bd : Nat} {O : Nat → Prop} {s : Sd} (h : Sto W w b bd O s) : ∃ bg bt Z T, StM W w b bd bg bt Z T s ∧ ∀ k, Z k ∨ T.fp k ∨ k = b ∨ k = bg → O k := by
  obtain ⟨bg, bt, Z, T, h1, h2, h3, h4, h5, h6⟩ := h.mem
  exact ⟨bg, bt, Z, T, ⟨h1, h2, h3, h4, h5⟩, h6⟩
section
variable {W w w' : World} {b bd bg bt : Nat} {Z Z' : Nat → Prop} {T : TR.TD} {s : Sd} {u' : U}
theorem StM.sto (h : StM W w b bd bg bt Z T s) (hz : ∀ k, Z k → W.heap.size ≤ k) (hg : W.heap.size ≤ bg) (ha : s.r.area ≤ 1) (hr : s.r.Ok) (hb : 32 ≤ s.u.L.length) : Sto W w b bd (fun k => Z k ∨ T.fp k ∨ k = b ∨ k = bg) s :=
  ⟨⟨bg, bt, Z, T, h.a, h.c, h.g, h.n, h.z, fun _ hk => hk⟩, by
    rintro k (hk | hk | rfl | rfl)
    · exact ⟨hz k hk, h.a.1.lt k hk⟩
    · exact ⟨h.c.t.ge k hk, h.c.t.at_.lt k hk⟩
    · exact ⟨h.c.bw, h.c.blk.lt⟩
    · exact ⟨hg, h.a.2.1.lt⟩, ha, hr, hb⟩
theorem Ct.fr {W w w' : World} {b o : Nat} {tb : TypeId} {cs : List Value} {bt : Nat} {T : TR.TD} {l : TR.L} {E : Nat → Prop} (h : Ct W w b o tb cs bt T l) (f : Fr E w w') (hE : ∀ k, E k → ¬ T.fp k ∧ k ≠ b ∧ W.heap.size ≤ k) : Ct W w' b o tb cs bt T l :=
  ⟨⟨h.t.b, h.t.at_.fr f (fun k hk e => (hE k e).1 hk), h.t.fr.trans f (fun k hk => .inr (hE k hk).2.2), h.t.ge⟩, h.blk.fr f (fun e => (hE b e).2.1 rfl), h.c0, h.c1, h.nb, h.bw, h.m⟩
theorem StM.no (h : StM W w b bd bg bt Z T s) (f : Fr No w w') : StM W w' b bd bg bt Z T s := ⟨h.a.no f, h.c.no f, h.g, h.n, h.z⟩
theorem StM.disk (h : StM W w b bd bg bt Z T s) (hZW : ∀ k, Z k → W.heap.size ≤ k) (hd : Dk w' bd Z' u') (f : Fr Z w w') (hg : Grows w Z Z') (hl : u'.L.length = s.u.L.length) : StM W w' b bd bg bt Z' T { s with u := u' } where
  a := ⟨hd, h.a.2.1.fr f h.a.2.2.1, fun e => (hg bg e).elim h.a.2.2.1 (fun hge => by have := h.a.2.1.lt; omega), by rw [hl]; exact h.a.2.2.2⟩
  c := h.c.fr f (fun k hk => ⟨(h.z k hk).1, (h.z k hk).2, hZW k hk⟩)
  g := h.g
  n := h.n
  z := fun k hk => by
    rcases hg k hk with h1 | h1
    · exact h.z k h1
    · refine ⟨fun e => ?_, fun e => ?_⟩
      · have := h.c.t.at_.lt k e; omega
      · have := h.c.blk.lt; omega
end
/-- What replace does. -/
def replS (s : Sd) (nx : Rt) (img : List UInt8) : Int × Sd :=
  let a := U.wimage s.u (1 + nx.area * areaN s.u.L.length) img
  if a.1 ≠ 0 then (a.1, { s with u := a.2 }) else
  let c := U.wroot a.2 nx
  if c.1 ≠ 0 then (c.1, { s with u := c.2 }) else
  match (U.olog c.2 nx.epoch).2.2 with
  | none => ((U.olog c.2 nx.epoch).1, { s with u := (U.olog c.2 nx.epoch).2.1 })
  | some (g, _) => (0, { s with u := (U.olog c.2 nx.epoch).2.1, r := nx, g := g })
theorem wimg_L : ∀ (k : Nat) (u : U) (s : Nat) (l : List UInt8), (U.wimg k u s l).2.L.length = u.L.length
  | 0, _, _, _ => rfl
  | k + 1, u, s, l => by
    unfold U.wimg
    split
    · exact flush_L u
    · split
      · rw [wimg_L k]; simp
      · simp
theorem flush_P {u : U} (h : u.flush.1 = 0) : u.flush.2.P = [] := by
  unfold U.flush at h ⊢
  split at h
  · simp at h
  · rename_i hu
    rw [if_neg hu]
    split at h
    · simp at h
    · rename_i hs; rw [if_neg hs]
theorem wimg_P : ∀ (k : Nat) (u : U) (s : Nat) (l : List UInt8), l.length < k → (U.wimg k u s l).1 = 0 → (U.wimg k u s l).2.P = []
  | 0, _, _, _, h, _ => by omega
  | k + 1, u, s, l, hk, h => by
    unfold U.wimg at h ⊢
    by_cases hl : l = []
    · rw [if_pos hl] at h ⊢; exact flush_P h
    · rw [if_neg hl] at h ⊢
      by_cases hw : (u.write s (l.take 64)).1 = 0
      · rw [if_pos hw] at h ⊢
        refine wimg_P k _ _ _ ?_ h
        have : 0 < l.length := List.length_pos_iff.2 hl
        simp; omega
      · rw [if_neg hw] at h; exact absurd h hw
theorem wroot_L (u : U) (r : Rt) : (U.wroot u r).2.L.length = u.L.length := by
  unfold U.wroot; split <;> simp
theorem wroot_P {u : U} {r : Rt} (h : (U.wroot u r).1 = 0) : (U.wroot u r).2.P = [] := by
  unfold U.wroot at h ⊢
  split at h
  · rename_i hh; rw [if_pos hh]; exact flush_P h
  · rename_i hh; exact absurd h hh
theorem hentWI (vs : Array Value) (w : World) : (callFunc 64 vs).run Tryz.prog w = .ok (.enter 64 vs) w := by kernel_rfl
theorem hentWR (vs : Array Value) (w : World) : (callFunc 65 vs).run Tryz.prog w = .ok (.enter 65 vs) w := by kernel_rfl
/-- A call on a store, told as data. -/
def StP (W w : World) (b bd : Nat) (O : Nat → Prop) (p : Int × Sd) (e : Ending) (w' : World) : Prop :=
  e = .returned (.int .i64 p.1) ∧ ∃ O', Sto W w' b bd O' p.2 ∧ Fr O w w' ∧ Grows w O O'
section
variable {W w : World} {b bd : Nat} {O : Nat → Prop} {s : Sd}
theorem frO {Z : Nat → Prop} {w w' : World} (h : Fr Z w w') (hz : ∀ k, Z k → O k) : Fr O w w' := ⟨h.os, h.tape, h.output, h.size, fun k hk hn => h.block k hk (fun e => hn (hz k e))⟩
set_option maxHeartbeats 16000000 in
theorem replace_any (nx : Rt) (t : S) (h : Sto W w b bd O s) (hp : s.u.P.length < 400000) (ha : nx.area ≤ 1) (hr : nx.Ok) (ht : t.size ≤ 500000) :
    Calls Tryz.prog 45 #[pt b, .agg nx.cells.toArray, .string t] w (StP W w b bd O (replS s nx t.data.toList)) := by
  obtain ⟨bg, bt, Z, T, hM, hO⟩ := h.split
  have H := hid h; have HM := hid hM; have HO := hid hO
  have HP := hid hp; have HA := hid ha; have HR := hid hr; have HT := hid ht
  have HZW := hid (fun k (hk : Z k) => (h.ow k (hO k (.inl hk))).1)
  have HZL := hid hM.a.1.lt
  have HBW := hid (And.intro (h.ow b (hO b (.inr (.inr (.inl rfl))))) (h.ow bg (hO bg (.inr (.inr (.inr rfl))))))
  obtain ⟨R, hR⟩ : ∃ R, replS s nx t.data.toList = R := ⟨_, rfl⟩
  have HRE := hid hR
  rw [hR]
  have HNX := hid (rfl : nx = nx)
  clear h hM hO hp ha hr ht hR
  go_enter Tryz.func45, Tryz.ntmps45
  go_wp2_with (first
    | ((with_reducible show wpList _ _ _ ({ dst := _, op := .box 66 _, type := _, pos := _, after := _, guard := _ } :: _) _ _); refine wpL_box rfl _ _ rfl _ rfl nx.cells rfl ?_; intro w1 HB1 F1 HS1)
    | fail)
  obtain ⟨bq, hbq⟩ : ∃ k, w.heap.size = k := ⟨_, rfl⟩
  have HBQ := hid hbq
  rw [hbq] at HB1 ⊢
  have HQ1 := hid HB1.out.drew
  have HF1 := hid F1.out.drew
  have HM1 := hid (HM.out.no F1.out.drew)
  clear hbq
  have hv := HM1.out.c.blk.range 0 [pt bd] rfl
  have q0 : w1.cell? ⟨bq, 0, none⟩ = some (.int .i64 (nx.area : Int)) := HQ1.out.cell 0
  have hold : Facts.hold [(3, fun w' => w'.rangeAt b 0 [pt bd]), (5, fun w' => w'.cell? ⟨bq, 0, none⟩ = some (.int .i64 (nx.area : Int)))] w1.drew := Facts.cons_hold hv (Facts.cons_hold q0 (Facts.nil_hold _))
  clear HB1 F1
  refine wpD_region hold (by kernel_rfl) 9 rfl ?_
  (refine wpD_plain 0 (v := ?_) rfl (by kernel_rfl) (by kernel_rfl) (by kernel_rfl) (fun _ _ _ h => h) (by rfl) ?_ (by assumption) ?_; rotate_left; (intro _w; go_simp; try with_reducible rfl); simp only [Act.put, List.setIfInBounds_toArray, List.set_cons_zero, List.set_cons_succ])
  (refine wpD_plain 1 (v := ?_) rfl (by kernel_rfl) (by kernel_rfl) (by kernel_rfl) (fun _ _ _ h => h) (by rfl) ?_ (by assumption) ?_; rotate_left; (intro _w; go_simp; try with_reducible rfl); simp only [Act.put, List.setIfInBounds_toArray, List.set_cons_zero, List.set_cons_succ])
  (refine wpD_plain 2 (v := ?_) rfl (by kernel_rfl) (by kernel_rfl) (by kernel_rfl) (fun _ _ _ h => h) (by rfl) ?_ (by assumption) ?_; rotate_left; (intro _w; go_simp; try with_reducible rfl); simp only [Act.put, List.setIfInBounds_toArray, List.set_cons_zero, List.set_cons_succ])
  (refine wpD_take 3 _ rfl (by kernel_rfl) (by kernel_rfl) (by kernel_rfl) (fun _ _ _ h => h) List.mem_cons_self (by rfl) (exec_load _ _ rfl b 0 rfl _ _ rfl rfl infoVol) (by assumption) ?_; simp only [Act.put, List.setIfInBounds_toArray, List.set_cons_zero, List.set_cons_succ])
  (refine wpD_plain 4 (v := ?_) rfl (by kernel_rfl) (by kernel_rfl) (by kernel_rfl) (fun _ _ _ h => h) (by rfl) ?_ (by assumption) ?_; rotate_left; (intro _w; go_simp; try with_reducible rfl); simp only [Act.put, List.setIfInBounds_toArray, List.set_cons_zero, List.set_cons_succ])
  (refine wpD_take 5 _ rfl (by kernel_rfl) (by kernel_rfl) (by kernel_rfl) (fun _ _ _ h => h) (List.mem_cons_of_mem _ List.mem_cons_self) (by rfl) (v := ?_) ?_ (by assumption) ?_; rotate_left; (intro _w _hw; go_simp; try with_reducible rfl); simp only [Act.put, List.setIfInBounds_toArray, List.set_cons_zero, List.set_cons_succ])
  (refine wpD_plain 6 (v := ?_) rfl (by kernel_rfl) (by kernel_rfl) (by kernel_rfl) (fun _ _ _ h => h) (by rfl) ?_ (by assumption) ?_; rotate_left; (intro _w; go_simp; try with_reducible rfl); simp only [Act.put, List.setIfInBounds_toArray, List.set_cons_zero, List.set_cons_succ])
  clear hold hv q0
  refine wpD_only 7 [] rfl (by kernel_rfl) (by kernel_rfl) (by rfl) (fun K7 hK7 => ?_)
  refine wp_call (.func 64) _ _ rfl 64 [] rfl hentWI [vol bd, .int .i64 (nx.area : Int), .string t] (by rfl) ?_
  refine (writeImage_any nx.area t (by have := HA.out; omega) HT.out HM1.out.a.1 HP.out).mono ?_
  rintro e w2 ⟨rfl, Z2, hd2, hf2, hg2⟩
  have hold : Facts.hold [] w2 := Facts.nil_hold _
  refine ⟨_, rfl, hK7 _ _ hold ?_⟩
  clear hK7 K7
  simp only [Act.put, List.setIfInBounds_toArray, List.set_cons_zero, List.set_cons_succ]
  (refine wpD_plain 8 (v := ?_) rfl (by kernel_rfl) (by kernel_rfl) (by kernel_rfl) (fun _ _ _ h => h) (by rfl) ?_ (by assumption) ?_; rotate_left; (intro _w; go_simp; try with_reducible rfl); simp only [Act.put, List.setIfInBounds_toArray, List.set_cons_zero, List.set_cons_succ])
  refine wpD_done (by kernel_rfl) ?_ _
  clear hold
  obtain ⟨p, hp⟩ : ∃ p, U.wimage s.u (1 + nx.area * areaN s.u.L.length) t.data.toList = p := ⟨_, rfl⟩
  have HPL : Hid (p.2.L.length = s.u.L.length ∧ (p.1 = 0 → p.2.P = [])) := hid (by rw [← hp]; exact ⟨wimg_L _ _ _ _, wimg_P _ _ _ _ (Nat.lt_succ_self _)⟩)
  rw [hp] at hd2 ⊢
  have HRE2 : Hid ((if p.1 ≠ 0 then (p.1, { s with u := p.2 }) else
    let c := U.wroot p.2 nx
    if c.1 ≠ 0 then (c.1, { s with u := c.2 }) else
    match (U.olog c.2 nx.epoch).2.2 with
    | none => ((U.olog c.2 nx.epoch).1, { s with u := (U.olog c.2 nx.epoch).2.1 })
    | some (g, _) => (0, { s with u := (U.olog c.2 nx.epoch).2.1, r := nx, g := g })) = R) := hid (by have h := HRE.out; unfold replS at h; rw [hp] at h; exact h)
  obtain ⟨c2, u2⟩ := p
  simp only at hd2 HPL HRE2 ⊢
  have HZ2W := hid (fun k (hk : Z2 k) => show W.heap.size ≤ k from (hg2 k hk).elim (HZW.out k) (fun hge => by have := HBW.out.1.1; have := HBW.out.1.2; have := HF1.out.size; omega))
  have HM2 := hid (HM1.out.disk HZW.out hd2 hf2 hg2 HPL.out.1)
  have HG2 : Hid (Grows w Z Z2) := hid (fun k hk => (hg2 k hk).imp id (fun hge => by have := HF1.out.size; omega))
  have HFO2 : Hid (Fr O w w2) := hid (HF1.out.no.trans' (frO hf2 (fun k hk => HO.out k (.inl hk))))
  have hnq : ¬ Z bq := fun hz => by have := HZL.out _ hz; have := HBQ.out; omega
  have HQ2 := hid (HQ1.out.fr hf2 hnq)
  have HNQ2 : Hid (¬ Z2 bq) := hid (fun hz => (hg2 bq hz).elim hnq (fun hge => by have := HQ1.out.lt; omega))
  have HDK2 := hid hd2
  clear hd2 hf2 hg2 hp hnq HM1 HQ1
  have fin : ∀ (w' : World) (Z' : Nat → Prop) (bg' : Nat) (s' : Sd), StM W w' b bd bg' bt Z' T s' → (∀ k, Z' k → W.heap.size ≤ k) → W.heap.size ≤ bg' → s'.r.area ≤ 1 → s'.r.Ok → 32 ≤ s'.u.L.length → Fr O w w' → Grows w Z Z' → (bg' = bg ∨ w.heap.size ≤ bg') →
      ∃ O', Sto W w' b bd O' s' ∧ Fr O w w' ∧ Grows w O O' := by
    intro w' Z' bg' s' h1 h2 h3 h4 h5 h6 h7 h8 h9
    refine ⟨_, h1.sto h2 h3 h4 h5 h6, h7, ?_⟩
    rintro k (hk | hk | rfl | rfl)
    · exact (h8 k hk).imp (fun h => HO.out k (.inl h)) id
    · exact .inl (HO.out k (.inr (.inl hk)))
    · exact .inl (HO.out _ (.inr (.inr (.inl rfl))))
    · exact h9.imp (fun h => HO.out _ (.inr (.inr (.inr h)))) id
  have FIN := hid fin
  clear fin
  by_cases hc : c2 = 0
  · subst hc
    have HRE3 : Hid ((let c := U.wroot u2 nx
      if c.1 ≠ 0 then (c.1, { s with u := c.2 }) else
      match (U.olog c.2 nx.epoch).2.2 with
      | none => ((U.olog c.2 nx.epoch).1, { s with u := (U.olog c.2 nx.epoch).2.1 })
      | some (g, _) => (0, { s with u := (U.olog c.2 nx.epoch).2.1, r := nx, g := g })) = R) := hid (by have h := HRE2.out; rw [if_neg (by simp)] at h; exact h)
    have HP2 := hid (HPL.out.2 rfl)
    go_wp2_with fail
    clear HRE2 HRE
    have HM2d := hid (HM2.out.no ((Fr.refl No w2).drew))
    have hv := HM2d.out.c.blk.range 0 [pt bd] rfl
    have HQ2d := hid HQ2.out.drew
    have hold : Facts.hold [(3, fun w' => w'.rangeAt b 0 [pt bd]), (4, fun w' => w'.rangeAt bq 0 nx.cells)] w2.drew := Facts.cons_hold hv (Facts.cons_hold (HQ2d.out.range 0 _ rfl) (Facts.nil_hold _))
    refine wpD_region hold (by kernel_rfl) 7 rfl ?_
    (refine wpD_plain 0 (v := ?_) rfl (by kernel_rfl) (by kernel_rfl) (by kernel_rfl) (fun _ _ _ h => h) (by rfl) ?_ (by assumption) ?_; rotate_left; (intro _w; go_simp; try with_reducible rfl); simp only [Act.put, List.setIfInBounds_toArray, List.set_cons_zero, List.set_cons_succ])
    (refine wpD_plain 1 (v := ?_) rfl (by kernel_rfl) (by kernel_rfl) (by kernel_rfl) (fun _ _ _ h => h) (by rfl) ?_ (by assumption) ?_; rotate_left; (intro _w; go_simp; try with_reducible rfl); simp only [Act.put, List.setIfInBounds_toArray, List.set_cons_zero, List.set_cons_succ])
    (refine wpD_plain 2 (v := ?_) rfl (by kernel_rfl) (by kernel_rfl) (by kernel_rfl) (fun _ _ _ h => h) (by rfl) ?_ (by assumption) ?_; rotate_left; (intro _w; go_simp; try with_reducible rfl); simp only [Act.put, List.setIfInBounds_toArray, List.set_cons_zero, List.set_cons_succ])
    (refine wpD_take 3 _ rfl (by kernel_rfl) (by kernel_rfl) (by kernel_rfl) (fun _ _ _ h => h) List.mem_cons_self (by rfl) (exec_load _ _ rfl b 0 rfl _ _ rfl rfl infoVol) (by assumption) ?_; simp only [Act.put, List.setIfInBounds_toArray, List.set_cons_zero, List.set_cons_succ])
    (refine wpD_take 4 _ rfl (by kernel_rfl) (by kernel_rfl) (by kernel_rfl) (fun _ _ _ h => h) (List.mem_cons_of_mem _ List.mem_cons_self) (by rfl) (exec_load _ _ rfl bq 0 rfl _ _ rfl rfl infoRt) (by assumption) ?_; simp only [Act.put, List.setIfInBounds_toArray, List.set_cons_zero, List.set_cons_succ])
    clear hold hv
    refine wpD_only 5 [] rfl (by kernel_rfl) (by kernel_rfl) (by rfl) (fun K5 hK5 => ?_)
    refine wp_call (.func 65) _ _ rfl 65 [] rfl hentWR [vol bd, .agg nx.cells.toArray] (by rfl) ?_
    refine (writeRoot_any nx HR.out HM2d.out.a.1 (by rw [HP2.out]; decide)).mono ?_
    rintro e w3 ⟨rfl, Z3, hd3, hf3, hg3⟩
    have hold : Facts.hold [] w3 := Facts.nil_hold _
    refine ⟨_, rfl, hK5 _ _ hold ?_⟩
    clear hK5 K5
    simp only [Act.put, List.setIfInBounds_toArray, List.set_cons_zero, List.set_cons_succ]
    (refine wpD_plain 6 (v := ?_) rfl (by kernel_rfl) (by kernel_rfl) (by kernel_rfl) (fun _ _ _ h => h) (by rfl) ?_ (by assumption) ?_; rotate_left; (intro _w; go_simp; try with_reducible rfl); simp only [Act.put, List.setIfInBounds_toArray, List.set_cons_zero, List.set_cons_succ])
    refine wpD_done (by kernel_rfl) ?_ _
    clear hold
    obtain ⟨p, hp⟩ : ∃ p, U.wroot u2 nx = p := ⟨_, rfl⟩
    have HPL3 : Hid (p.2.L.length = u2.L.length ∧ (p.1 = 0 → p.2.P = [])) := hid (by rw [← hp]; exact ⟨wroot_L _ _, wroot_P⟩)
    have HRE4 : Hid ((if p.1 ≠ 0 then (p.1, { s with u := p.2 }) else
      match (U.olog p.2 nx.epoch).2.2 with
      | none => ((U.olog p.2 nx.epoch).1, { s with u := (U.olog p.2 nx.epoch).2.1 })
      | some (g, _) => (0, { s with u := (U.olog p.2 nx.epoch).2.1, r := nx, g := g })) = R) := hid (by have h := HRE3.out; rw [hp] at h; exact h)
    have hd3' : Dk w3 bd Z3 p.2 := by rw [← hp]; exact hd3
    rw [show U.wroot ({ s with u := u2 } : Sd).u nx = p from hp]
    clear hd3
    obtain ⟨c3, u3⟩ := p
    simp only at hd3' HPL3 HRE4 ⊢
    have HL3 : Hid (u3.L.length = s.u.L.length) := hid (HPL3.out.1.trans HPL.out.1)
    have f23 : Fr Z2 w2 w3 := Fr.trans' (b := w2.drew) (Fr.refl Z2 w2).drew hf3
    have hg3' : Grows w2 Z2 Z3 := hg3
    have HZ3W := hid (fun k (hk : Z3 k) => show W.heap.size ≤ k from (hg3' k hk).elim (HZ2W.out k) (fun hge => by have := HBW.out.1.1; have := HBW.out.1.2; have := HFO2.out.size; omega))
    have HM3 : Hid (StM W w3 b bd bg bt Z3 T { s with u := u3 }) := hid (HM2.out.disk HZ2W.out hd3' f23 hg3' HPL3.out.1)
    have HG3 : Hid (Grows w Z Z3) := hid (fun k hk => (hg3' k hk).elim (HG2.out k) (fun hge => .inr (by have := HFO2.out.size; omega)))
    have HFO3 : Hid (Fr O w w3) := hid (HFO2.out.trans f23 (fun k hk => (HG2.out k hk).imp (fun h => HO.out k (.inl h)) id))
    have HQ3 := hid (HQ2.out.fr f23 HNQ2.out)
    have HNQ3 : Hid (¬ Z3 bq) := hid (fun hz => (hg3' bq hz).elim HNQ2.out (fun hge => by have := HQ2.out.lt; omega))
    clear hd3' hf3 hg3 hg3' f23 hp HRE3 HM2d HQ2d
    by_cases hc3 : c3 = 0
    · subst hc3
      have HRE5 : Hid ((match (U.olog u3 nx.epoch).2.2 with
        | none => ((U.olog u3 nx.epoch).1, { s with u := (U.olog u3 nx.epoch).2.1 })
        | some (g, _) => (0, { s with u := (U.olog u3 nx.epoch).2.1, r := nx, g := g })) = R) := hid (by have h := HRE4.out; rw [if_neg (by simp)] at h; exact h)
      have HP3 := hid (HPL3.out.2 rfl)
      clear HRE4
      go_wp2_with fail
      have HM3d := hid (HM3.out.no ((Fr.refl No w3).drew))
      have hv := HM3d.out.c.blk.range 0 [pt bd] rfl
      have q1 : w3.cell? ⟨bq, 1, none⟩ = some (.int .u32 (nx.epoch : Int)) := HQ3.out.cell 1
      have hold : Facts.hold [(3, fun w' => w'.rangeAt b 0 [pt bd]), (5, fun w' => w'.cell? ⟨bq, 1, none⟩ = some (.int .u32 (nx.epoch : Int)))] w3.drew := Facts.cons_hold hv (Facts.cons_hold q1 (Facts.nil_hold _))
      refine wpD_region hold (by kernel_rfl) 14 rfl ?_
      (refine wpD_plain 0 (v := ?_) rfl (by kernel_rfl) (by kernel_rfl) (by kernel_rfl) (fun _ _ _ h => h) (by rfl) ?_ (by assumption) ?_; rotate_left; (intro _w; go_simp; try with_reducible rfl); simp only [Act.put, List.setIfInBounds_toArray, List.set_cons_zero, List.set_cons_succ])
      (refine wpD_plain 1 (v := ?_) rfl (by kernel_rfl) (by kernel_rfl) (by kernel_rfl) (fun _ _ _ h => h) (by rfl) ?_ (by assumption) ?_; rotate_left; (intro _w; go_simp; try with_reducible rfl); simp only [Act.put, List.setIfInBounds_toArray, List.set_cons_zero, List.set_cons_succ])
      (refine wpD_plain 2 (v := ?_) rfl (by kernel_rfl) (by kernel_rfl) (by kernel_rfl) (fun _ _ _ h => h) (by rfl) ?_ (by assumption) ?_; rotate_left; (intro _w; go_simp; try with_reducible rfl); simp only [Act.put, List.setIfInBounds_toArray, List.set_cons_zero, List.set_cons_succ])
      (refine wpD_take 3 _ rfl (by kernel_rfl) (by kernel_rfl) (by kernel_rfl) (fun _ _ _ h => h) List.mem_cons_self (by rfl) (exec_load _ _ rfl b 0 rfl _ _ rfl rfl infoVol) (by assumption) ?_; simp only [Act.put, List.setIfInBounds_toArray, List.set_cons_zero, List.set_cons_succ])
      (refine wpD_plain 4 (v := ?_) rfl (by kernel_rfl) (by kernel_rfl) (by kernel_rfl) (fun _ _ _ h => h) (by rfl) ?_ (by assumption) ?_; rotate_left; (intro _w; go_simp; try with_reducible rfl); simp only [Act.put, List.setIfInBounds_toArray, List.set_cons_zero, List.set_cons_succ])
      (refine wpD_take 5 _ rfl (by kernel_rfl) (by kernel_rfl) (by kernel_rfl) (fun _ _ _ h => h) (List.mem_cons_of_mem _ List.mem_cons_self) (by rfl) (v := ?_) ?_ (by assumption) ?_; rotate_left; (intro _w _hw; go_simp; try with_reducible rfl); simp only [Act.put, List.setIfInBounds_toArray, List.set_cons_zero, List.set_cons_succ])
      clear hold hv q1
      refine wpD_only 6 [] rfl (by kernel_rfl) (by kernel_rfl) (by rfl) (fun K6 hK6 => ?_)
      refine wp_call (.func 52) _ _ rfl 52 [] rfl hentOL [vol bd, .int .u32 (nx.epoch : Int)] (by rfl) ?_
      refine (openLog_any nx.epoch HM3d.out.a.1 (by show 32 ≤ u3.L.length; rw [HL3.out]; exact H.out.big) HR.out.e (by show u3.P.length < _; rw [HP3.out]; decide)).mono ?_
      intro e w4 ho
      obtain ⟨v1, v2, v3, rfl⟩ := opened_tuple ho
      have HO4 := hid (opened_pre ((Fr.refl No w3).drew) ho)
      clear ho
      have hold : Facts.hold [] w4 := Facts.nil_hold _
      refine ⟨_, rfl, hK6 _ _ hold ?_⟩
      clear hK6 K6
      simp only [Act.put, List.setIfInBounds_toArray, List.set_cons_zero, List.set_cons_succ]
      (refine wpD_plain 7 (v := ?_) rfl (by kernel_rfl) (by kernel_rfl) (by kernel_rfl) (fun _ _ _ h => h) (by rfl) ?_ (by assumption) ?_; rotate_left; (intro _w; go_simp; try with_reducible rfl); simp only [Act.put, List.setIfInBounds_toArray, List.set_cons_zero, List.set_cons_succ])
      (refine wpD_plain 8 (v := ?_) rfl (by kernel_rfl) (by kernel_rfl) (by kernel_rfl) (fun _ _ _ h => h) (by rfl) ?_ (by assumption) ?_; rotate_left; (intro _w; go_simp; try with_reducible rfl); simp only [Act.put, List.setIfInBounds_toArray, List.set_cons_zero, List.set_cons_succ])
      (refine wpD_plain 9 (v := ?_) rfl (by kernel_rfl) (by kernel_rfl) (by kernel_rfl) (fun _ _ _ h => h) (by rfl) ?_ (by assumption) ?_; rotate_left; (intro _w; go_simp; try with_reducible rfl); simp only [Act.put, List.setIfInBounds_toArray, List.set_cons_zero, List.set_cons_succ])
      (refine wpD_plain 10 (v := ?_) rfl (by kernel_rfl) (by kernel_rfl) (by kernel_rfl) (fun _ _ _ h => h) (by rfl) ?_ (by assumption) ?_; rotate_left; (intro _w; go_simp; try with_reducible rfl); simp only [Act.put, List.setIfInBounds_toArray, List.set_cons_zero, List.set_cons_succ])
      (refine wpD_plain 11 (v := ?_) rfl (by kernel_rfl) (by kernel_rfl) (by kernel_rfl) (fun _ _ _ h => h) (by rfl) ?_ (by assumption) ?_; rotate_left; (intro _w; go_simp; try with_reducible rfl); simp only [Act.put, List.setIfInBounds_toArray, List.set_cons_zero, List.set_cons_succ])
      (refine wpD_plain 12 (v := ?_) rfl (by kernel_rfl) (by kernel_rfl) (by kernel_rfl) (fun _ _ _ h => h) (by rfl) ?_ (by assumption) ?_; rotate_left; (intro _w; go_simp; try with_reducible rfl); simp only [Act.put, List.setIfInBounds_toArray, List.set_cons_zero, List.set_cons_succ])
      (refine wpD_plain 13 (v := ?_) rfl (by kernel_rfl) (by kernel_rfl) (by kernel_rfl) (fun _ _ _ h => h) (by rfl) ?_ (by assumption) ?_; rotate_left; (intro _w; go_simp; try with_reducible rfl); simp only [Act.put, List.setIfInBounds_toArray, List.set_cons_zero, List.set_cons_succ])
      refine wpD_done (by kernel_rfl) ?_ _
      clear hold
      obtain ⟨Z4, hf4, hg4, hm⟩ := HO4.out
      have HL4 : Hid ((U.olog u3 nx.epoch).2.1.L.length = s.u.L.length) := hid ((opens_L _ _ _ _).trans HL3.out)
      have HZ4W := hid (fun k (hk : Z4 k) => show W.heap.size ≤ k from (hg4 k hk).elim (HZ3W.out k) (fun hge => by have := HBW.out.1.1; have := HBW.out.1.2; have := HFO3.out.size; omega))
      have HG4 : Hid (Grows w Z Z4) := hid (fun k hk => (hg4 k hk).elim (HG3.out k) (fun hge => .inr (by have := HFO3.out.size; omega)))
      have HFO4 : Hid (Fr O w w4) := hid (HFO3.out.trans hf4 (fun k hk => (HG3.out k hk).imp (fun h => HO.out k (.inl h)) id))
      have HQ4 := hid (HQ3.out.fr hf4 HNQ3.out)
      have HF4 := hid hf4; have HGG4 := hid hg4
      clear hf4 hg4 HO4 HM3d
      cases ho : (U.olog u3 nx.epoch).2.2 with
      | none =>
        rw [show U.olog ({ s with u := u3 } : Sd).u nx.epoch = U.olog u3 nx.epoch from rfl, ho] at hm
        obtain ⟨h1, h2⟩ := hm
        simp only [Ending.returned.injEq, Value.tuple.injEq, Array.mk.injEq, List.cons.injEq, and_true] at h1
        obtain ⟨rfl, rfl, rfl⟩ := h1
        have hne := olog_none ho
        have HRF : Hid (R = ((U.olog u3 nx.epoch).1, { s with u := (U.olog u3 nx.epoch).2.1 })) := hid (by have h := HRE5.out; rw [ho] at h; exact h.symm)
        obtain ⟨c, hc⟩ : ∃ c, (U.olog u3 nx.epoch).1 = c := ⟨_, rfl⟩
        rw [hc] at hne HRF ⊢
        have HM4 : Hid (StM W w4 b bd bg bt Z4 T { s with u := (U.olog u3 nx.epoch).2.1 }) := hid (HM3.out.disk HZ3W.out h2 HF4.out HGG4.out (HL4.out.trans HL3.out.symm))
        clear h2 hc ho
        go_wp2_with fail
        go_ret
        rw [HRF.out]
        exact ⟨rfl, FIN.out w4 Z4 bg _ HM4.out HZ4W.out HBW.out.2.1 H.out.area H.out.rok (by rw [HL4.out]; exact H.out.big) HFO4.out HG4.out (.inl rfl)⟩
      | some q =>
        obtain ⟨g, recs⟩ := q
        rw [show U.olog ({ s with u := u3 } : Sd).u nx.epoch = U.olog u3 nx.epoch from rfl, ho] at hm
        simp only at hm
        obtain ⟨bg', v, h1, h2, h3, h4⟩ := hm
        simp only [Ending.returned.injEq, Value.tuple.injEq, Array.mk.injEq, List.cons.injEq, and_true] at h1
        obtain ⟨rfl, rfl, rfl⟩ := h1
        have HRF : Hid (R = (0, { s with u := (U.olog u3 nx.epoch).2.1, r := nx, g := g })) := hid (by have h := HRE5.out; rw [ho] at h; exact h.symm)
        have HBG := hid h2; have HAT := hid h3
        have HM4 : Hid (StM W w4 b bd bg bt Z4 T { s with u := (U.olog u3 nx.epoch).2.1 }) := hid (HM3.out.disk HZ3W.out h3.1 HF4.out HGG4.out (HL4.out.trans HL3.out.symm))
        clear h2 h3 h4 ho HRE5
        obtain ⟨u4, hu4⟩ : ∃ x, (U.olog u3 nx.epoch).2.1 = x := ⟨_, rfl⟩
        rw [show U.olog ({ s with u := u3 } : Sd).u nx.epoch = U.olog u3 nx.epoch from rfl, hu4] at HAT
        rw [hu4] at HM4 HL4 HRF
        clear hu4
        have HB4 := hid HM4.out.c.blk
        have hq := HQ4.out.range 0 nx.cells rfl
        go_wp2_with (first
          | ((with_reducible show wpList _ _ _ ({ dst := _, op := .load 66 _, type := _, pos := _, after := _, guard := _ } :: _) _ _); refine wpL_load rfl _ _ rfl bq 0 rfl nx.cells _ hq rfl rfl infoRt ?_)
          | ((with_reducible show wpList _ _ _ ({ dst := _, op := .store 66 _ _, type := _, pos := _, after := _, guard := _ } :: _) _ _); refine TR.wpL_storeV rfl _ _ _ rfl b 4 (.agg nx.cells.toArray) nx.cells rfl rfl rfl _ _ HB4.out (by simp [stC, Rt.cells]) infoRt (rt_one _) ?_; intro w5 HB5 F5 HS5; have q1 := HB5.out.cell 1; have q2 := HB5.out.frozen 1)
          | fail)
        go_ret
        rw [HRF.out]
        have f46 : Fr (fun k => k = b) w4 (w5.setCell ⟨b, 1, none⟩ (pt bg')) := F5.out.setCell _ _ (.inl rfl)
        have HB6 := HB5.out.set 1 (pt bg')
        have hcb : ∀ k, T.fp k → ¬ k = b := fun k hk e => HM4.out.c.nb (by rw [← e]; exact hk)
        have h04 := HFO4.out.size
        have h03 := HFO3.out.size
        have hbw := HBW.out.1.2
        have hbg := HBG.out
        have hcell : (spl ((stC bd (pt bg) (pt bt) 0 s.r s.br).set 3 (.int .i64 (imgN s.l : Int))) 4 nx.cells).set 1 (pt bg') = (stC bd (pt bg') (pt bt) 0 nx s.br).set 3 (.int .i64 (imgN s.l : Int)) := by simp [spl, stC, Rt.cells]
        refine ⟨rfl, FIN.out _ Z4 bg' { s with u := u4, r := nx, g := g } ⟨?_, ?_, ?_, ?_, HM4.out.z⟩ HZ4W.out (by have := HBW.out.1.1; omega) HA.out HR.out (by show 32 ≤ u4.L.length; rw [HL4.out]; exact H.out.big) (HFO4.out.trans f46 (fun k hk => .inl (by have e' : k = b := hk; rw [e']; exact HO.out b (.inr (.inr (.inl rfl)))))) HG4.out (.inr (by omega))⟩
        · exact HAT.out.fr f46 (fun k hk e => (HM4.out.z k hk).2 e) (fun e => by have e' : bg' = b := e; omega)
        · refine ⟨⟨HM4.out.c.t.b, HM4.out.c.t.at_.fr f46 hcb, HM4.out.c.t.fr.trans f46 (fun k hk => .inr (by have e' : k = b := hk; have := HM4.out.c.bw; omega)), HM4.out.c.t.ge⟩, ?_, rfl, by simp [stC], HM4.out.c.nb, HM4.out.c.bw, HM4.out.c.m⟩
          rw [← hcell]
          exact HB6
        · intro hf
          have := HM3.out.c.t.at_.lt _ hf
          omega
        · intro e
          omega
    · have HRF : Hid (R = (c3, { s with u := u3 })) := hid (by have h := HRE4.out; rw [if_pos hc3] at h; exact h.symm)
      go_wp2_with fail
      go_ret
      rw [HRF.out]
      exact ⟨rfl, FIN.out w3 Z3 bg _ HM3.out HZ3W.out HBW.out.2.1 H.out.area H.out.rok (by show 32 ≤ u3.L.length; rw [HL3.out]; exact H.out.big) HFO3.out HG3.out (.inl rfl)⟩
  · have HRF : Hid (R = (c2, { s with u := u2 })) := hid (by have h := HRE2.out; rw [if_pos hc] at h; exact h.symm)
    go_wp2_with fail
    go_ret
    rw [HRF.out]
    exact ⟨rfl, FIN.out w2 Z2 bg _ HM2.out HZ2W.out HBW.out.2.1 H.out.area H.out.rok (by rw [HPL.out.1]; exact H.out.big) HFO2.out HG2.out (.inl rfl)⟩
end
end Go.Proofs.YtejbanlhgnlliaaGreat.ST
