/-
  Parts: put, at any depth.
-/
import Derived.Test.YtlnolnaapnijbaaTrY
namespace Go.Proofs.Ytlnolnaapnijbaa.TR
set_option maxRecDepth 100000
open Go.RowKit K

theorem puts_up {d : Nat} {lo : S} {hi : Option S} {w w2 w3 : World} {t : PT (d + 1)} {A B : List (S × Kid (d + 1))} {k : S} {x x' : PT d} {key v : S} (hl : t.l = A ++ (k, up x) :: B) (hA : AllLt (flats (d + 1) A) key) (hB : AllGt (flats (d + 1) B) key)
    (h1 : Turned (d + 1) w t w2 ⟨t.b, t.k, t.c, A ++ (k, up x') :: B⟩) (hf : flat d x' = put key v (flat d x)) (hx : x.l.length ≤ x'.l.length) (hx4 : 4 ≤ x.l.length) (hx8 : x.l.length ≤ 8)
    (h2 : Fitted d lo hi w2 ⟨t.b, t.k, t.c, A ++ (k, up x') :: B⟩ x'.l.length w3) {e : Ending} (he : e = .returned (.bool (has key (flat d x)))) : Puts (d + 1) lo hi w t key v e w3 := by
  obtain ⟨t', a1, a2, a3, a4, a5, a6, a7, a8⟩ := h2
  have hlen : (⟨t.b, t.k, t.c, A ++ (k, up x') :: B⟩ : PT (d + 1)).l.length = t.l.length := by rw [hl]; simp
  have e1 : flat (d + 1) t = flats (d + 1) A ++ flat d x ++ flats (d + 1) B := by
    rw [flat_of hl, flats_append, flats_cons, List.append_assoc]; rfl
  have e2 : flat (d + 1) (⟨t.b, t.k, t.c, A ++ (k, up x') :: B⟩ : PT (d + 1)) = flats (d + 1) A ++ flat d x' ++ flats (d + 1) B := by
    rw [flat_of rfl, flats_append, flats_cons, List.append_assoc]; rfl
  rw [hlen] at a5 a6 a7 a8
  have h6 := a6 (by omega)
  refine ⟨t', ?_, h1.trans a1, a2, a3, ?_, h6, a7⟩
  · rw [he, e1, has_mid hA hB]
  · rw [a4, e2, hf, e1, put_mid hA hB]
set_option maxHeartbeats 4000000 in
theorem put_any : ∀ (d : Nat) (w : World) (t : PT d) (lo : S) (hi : Option S) (key v : S), Rep w d t → Ok d lo hi t → Good d t → (d = 0 ∨ 2 ≤ t.l.length) → lt key lo = false → Below hi key → t.l.length ≤ 8796093021000 →
    Calls Try.prog 48 #[val d t, .string key, .string v] w (Puts d lo hi w t key v) := by
  intro d
  induction d with
  | zero => exact fun w t lo hi key v hr hok _ _ hlo hhi hn => put_leaf w t lo hi key v hr hok hlo hhi hn
  | succ d ih =>
    intro w t lo hi key v hr hok hg h2 hlo hhi hn
    have h2' : 2 ≤ t.l.length := h2.elim (fun e => by cases e) id
    have HIH := hid ih; have HR := hid hr; have HOK := hid hok; have HG := hid hg; have HLO := hid hlo; have HHI := hid hhi; have HN := hid hn; have H2 := hid h2'
    obtain ⟨gc, cc, hcv, hc1, hcc1, hcc2, hog, hrange⟩ := node_open hr (by omega)
    have HRG := hid hrange
    clear ih hr hok hg h2 hlo hhi hn h2' hcv hog hrange
    show Calls Try.prog _ #[.agg #[.pointer none, .pointer (some ⟨t.b, 0, none⟩)], .string key, .string v] w _
    go_enter Try.func48, Try.ntmps48
    go_wp2_with ((with_reducible show wpList _ _ _ ({ dst := _, op := .box 103 _, type := _, pos := _, after := _, guard := _ } :: _) _ _); refine wpL_box rfl _ _ rfl _ rfl [.pointer none, .pointer (some ⟨t.b, 0, none⟩)] rfl ?_; intro w1 HB1 F1 HS1; have c0 : w1.cell? ⟨w.heap.size, 0, none⟩ = some (.pointer none) := HB1.out.cell 0; have c1 : w1.cell? ⟨w.heap.size, 1, none⟩ = some (.pointer (some ⟨t.b, 0, none⟩)) := HB1.out.cell 1)
    have HR1 : Hid (Rep w1 (d + 1) t) := hid (HR.out.no F1.out)
    refine (holding_any w1 t.b _ _ (keys t.l) (cells t.l) key HR1.out.nd HOK.out.rises (by rw [keys_length]; have := H2.out; omega) (by rw [keys_length]; have := HN.out; omega)).mono ?_
    rintro e w2 ⟨j, rfl, hjk, f2⟩
    obtain ⟨A, k, (x : PT d), B, hl, hAj, hA, hB, hcA, hokx, hbk, hcB, hklo, hkhi⟩ := hold_split HOK.out hjk
    have HL : Hid (t.l = A ++ (k, up (d := d) x) :: B) := hid hl
    have HAJ := hid hAj; have HA := hid hA; have HB := hid hB
    have HOX : Hid (Ok d k (nx hi B) x) := hid hokx
    have HKL := hid (hklo HLO.out); have HKH := hid (hkhi HHI.out)
    have F2 : Hid (Fr No w w2) := hid (F1.out.trans' f2)
    have d1 : w2.cell? ⟨w.heap.size, 1, none⟩ = some (.pointer (some ⟨t.b, 0, none⟩)) := f2.cell c1 id
    have d2 : w2.cell? ⟨t.b, 1, none⟩ = some (.slice (some ⟨gc, 0, none⟩) t.l.length cc) := F2.out.cell hc1 id
    have HBX2 : Hid (Blk w2 w.heap.size 103 [.pointer none, .pointer (some ⟨t.b, 0, none⟩)]) := hid (HB1.out.fr f2 id)
    have HR2 : Hid (Rep w2 (d + 1) t) := hid (HR1.out.no f2)
    have HRX : Hid (w2.rangeAt gc (j * 2) (ptr d x)) := hid (by have := F2.out.range (HRG.out A k x B hl) id; rwa [hAj] at this)
    have hjm : (j : Int) < (t.l.length : Int) := by have : j < t.l.length := by rw [hl, ← hAj]; simp
                                                    omega
    have HGX : Hid (szK (d + 1) x ∧ goodK (d + 1) x) := hid (HG.out (k, x) (by rw [hl]; simp))
    clear hjk hl hAj hA hB hcA hokx hbk hcB hklo hkhi f2 c0 c1
    unfold maxLen at hcc2
    go_wp2_with ((with_reducible show wpList _ _ _ ({ dst := _, op := .load 103 _, type := _, pos := _, after := _, guard := _ } :: _) _ _); refine wpL_load rfl _ _ rfl gc (j * 2) rfl (ptr d x) _ HRX.out rfl rfl (by rw [ptr_length]; exact info_p) ?_)
    have hx4 : 4 ≤ (Nd.l (α := Kid d) x).length := HGX.out.1.1
    have hx8 : (Nd.l (α := Kid d) x).length ≤ 8 := HGX.out.1.2
    have HX4 := hid hx4; have HX8 := hid hx8
    clear hx4 hx8
    refine (HIH.out w2 x k (nx hi B) key v (repK_succ.1 (HR2.out.kids.rep (k, x) (by rw [HL.out]; simp))) HOX.out HGX.out.2 (.inr (by have := HX4.out; omega)) HKL.out HKH.out (by have := HX8.out; omega)).mono ?_
    rintro e w3 ⟨x', rfl, htn, hox', hgx', hfx, hxl, hxl1⟩
    have TN := hid htn
    have HT1 := hid (rep_kid HR2.out HL.out htn)
    have HOX' := hid hox'; have HGX' := hid hgx'; have HFX := hid hfx; have HXL := hid hxl; have HXL1 := hid hxl1
    clear htn hox' hgx' hfx hxl hxl1
    have hbx : ¬ fp d x w.heap.size := fun e => by
      have := HR.out.lt _ (.inr ⟨(k, x), by rw [HL.out]; simp, e⟩); omega
    have HBX3 : Hid (Blk w3 w.heap.size 103 [.pointer none, .pointer (some ⟨t.b, 0, none⟩)]) := hid (HBX2.out.fr TN.out.fr hbx)
    clear hbx d1 d2
    generalize hb : has key (flat d x) = was at *
    have HBB := hid hb
    clear hb
    go_wp2_with ((with_reducible show wpList _ _ _ ({ dst := _, op := .load 103 _, type := _, pos := _, after := _, guard := _ } :: _) _ _); refine wpL_load rfl _ _ rfl w.heap.size 0 rfl [.pointer none, .pointer (some ⟨t.b, 0, none⟩)] _ (HBX3.out.range 0 _ rfl) rfl rfl info_p ?_)
    have hok1 : Ok (d + 1) lo hi (⟨t.b, t.k, t.c, A ++ (k, up x') :: B⟩ : PT (d + 1)) := by
      have h1 := HOK.out.1; have h2 := HOK.out.2
      rw [HL.out] at h1 h2
      exact ⟨chain_put h1 HOX'.out, first_put h2⟩
    have hlen : (A ++ (k, up x') :: B).length = t.l.length := by rw [HL.out]; simp
    have hfit := fit_any d w3 ⟨t.b, t.k, t.c, A ++ (k, up x') :: B⟩ A B k x' lo hi HT1.out.rep rfl hok1 (fun y hy => HG.out y (by rw [HL.out]; rcases List.mem_append.1 hy with h | h <;> simp [h])) HGX'.out (by have := HX4.out; have := HXL.out; omega) (by have := HX8.out; have := HXL1.out; omega) (by simp only [hlen]; exact H2.out) (by simp only [hlen]; have := HN.out; omega)
    rw [HAJ.out] at hfit
    have HFIT := hid hfit
    clear hfit hok1 hlen
    refine HFIT.out.mono ?_
    rintro e w4 ⟨rfl, hfd⟩
    have HFD := hid hfd
    clear hfd
    go_wp2
    go_ret
    exact puts_up HL.out HA.out HB.out (HT1.out.pre F2.out) HFX.out HXL.out HX4.out HX8.out HFD.out (by rw [HBB.out]; rfl)
end Go.Proofs.Ytlnolnaapnijbaa.TR
