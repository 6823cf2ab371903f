/-
  Parts: remove.
-/
import Derived.Test.YtlnolnaapnijbaaTrZ
namespace Go.Proofs.Ytlnolnaapnijbaa.TR
set_option maxRecDepth 100000
open Go.RowKit K

/-- What remove leaves. -/
def Dels (d : Nat) (lo : S) (hi : Option S) (w : World) (t : PT d) (key : S) (e : Ending) (w' : World) : Prop :=
  ∃ t' : PT d, e = .returned (.bool (has key (flat d t))) ∧ Turned d w t w' t' ∧ Ok d lo hi t' ∧ Good d t' ∧ flat d t' = del key (flat d t) ∧ t'.l.length ≤ t.l.length ∧ t.l.length ≤ t'.l.length + 1
theorem rem_keys0 {l : List (S × Kid 0)} {i : Nat} (hi : i < l.length) : (keys l).take i ++ (keys l).drop (i + 1) = keys (l.take i ++ l.drop (i + 1)) ∧ (cells l).take (i * 1) ++ (cells l).drop ((i + 1) * 1) = cells (l.take i ++ l.drop (i + 1)) := by
  constructor
  · simp [keys]
  · have h := cells_split l i (Nat.le_of_lt hi)
    have h' := cells_split l (i + 1) hi
    have he : elk 0 = 1 := rfl
    rw [he] at h h'
    rw [h.1, h'.2, cells_append]
set_option maxHeartbeats 2000000 in
theorem rem_leaf (w : World) (t : PT 0) (lo : S) (hi : Option S) (key : S) (hr : Rep w 0 t) (hok : Ok 0 lo hi t) (hlo : lt key lo = false) (hhi : Below hi key) (hn : t.l.length ≤ 8796093021000) :
    Calls Try.prog 73 #[val 0 t, .string key] w (Dels 0 lo hi w t key) := by
  have HR := hid hr; have HOK := hid hok; have HLO := hid hlo; have HHI := hid hhi; have HN := hid hn
  clear hr hok hlo hhi hn
  show Calls Try.prog _ #[.agg #[.pointer (some ⟨t.b, 0, none⟩), .pointer none], .string key] w _
  go_enter Try.func73, Try.ntmps73
  go_wp2_with ((with_reducible show wpList _ _ _ ({ dst := _, op := .box 103 _, type := _, pos := _, after := _, guard := _ } :: _) _ _); refine wpL_box rfl _ _ rfl _ rfl [.pointer (some ⟨t.b, 0, none⟩), .pointer none] rfl ?_; intro w1 HB1 F1 HS1; have c0 : w1.cell? ⟨w.heap.size, 0, none⟩ = some (.pointer (some ⟨t.b, 0, none⟩)) := HB1.out.cell 0)
  have HR1 : Hid (Rep w1 0 t) := hid (HR.out.no F1.out)
  refine (position_any w1 t.b _ _ (keys t.l) (cells t.l) key HR1.out.nd HOK.out.rises (by rw [keys_length]; have := HN.out; omega)).mono ?_
  rintro e w2 ⟨i, rfl, hpk, f2⟩
  have HP := hid (leaf_part hpk)
  have F2 : Hid (Fr No w w2) := hid (F1.out.trans' f2)
  have HR2 : Hid (Rep w2 0 t) := hid (HR1.out.no f2)
  have d0 : w2.cell? ⟨w.heap.size, 0, none⟩ = some (.pointer (some ⟨t.b, 0, none⟩)) := f2.cell c0 id
  have HS : Hid (Sorted (flat 0 t)) := hid (ok_sorted HOK.out)
  have HRG : Hid (∀ x ∈ flat 0 t, lt x.1 lo = false ∧ Below hi x.1) := hid (fun x hx => by
    rw [flat_zero] at hx
    exact ⟨HOK.out.2 x hx, chain_below HOK.out.1 x hx⟩)
  clear hpk f2 c0
  by_cases hh : hit (keys t.l) key i = true
  · rw [hh]
    have hx : (keys t.l)[i]? = some key := by simpa [hit] using hh
    obtain ⟨x, hx⟩ : ∃ x, t.l[i]? = some (key, x) := by
      unfold keys at hx
      rw [List.getElem?_map] at hx
      cases he : t.l[i]? with
      | none => rw [he] at hx; cases hx
      | some y =>
        rw [he] at hx
        have : y.1 = key := by simpa using hx
        exact ⟨y.2, by rw [← this]⟩
    have HX := hid hx
    obtain ⟨hil, -⟩ := List.getElem?_eq_some_iff.1 hx
    have HIL := hid hil
    have hib : (i : Int) + 1 ≤ 8796093022208 := by have := HN.out; omega
    clear hx hh hil
    go_wp2_with fail
    have hrm := remove_s w2 t.b i (i + 1) t.k t.c (keys t.l) (cells t.l) HR2.out.nd (Nat.le_succ i) (by rw [keys_length]; exact HIL.out) (by rw [keys_length]; have := HN.out; omega)
    rw [show (((i + 1 : Nat) : Int)) = (i : Int) + 1 from by omega] at hrm
    have HRM := hid hrm
    clear hrm
    refine HRM.out.mono ?_
    rintro e w3 ⟨rfl, hp⟩
    have hil := rem_keys0 HIL.out
    rw [hil.1, hil.2] at hp
    obtain ⟨t', e1, e2, r1, f3, g3⟩ := rep_node hp (leaf_kids _ _ _)
    have E1 := hid e1; have TN := hid ((leaf_turned r1 f3 g3 e2).pre F2.out)
    clear hil hp e1 e2 r1 f3 g3
    go_wp2
    go_ret
    have hpt := HP.out.hit (k := key) HX.out rfl key
    have hfl : flat 0 t' = del key (flat 0 t) := by
      rw [flat_zero, flat_zero, E1.out]; exact hpt.2.1.symm
    refine ⟨t', ?_, TN.out, leaf_ok (l := del key (flat 0 t)) (del_sorted key HS.out) (fun x hx => HRG.out x (del_sub key _ x hx)) (by rw [← hfl, flat_zero]), leaf_good _, hfl, ?_, ?_⟩
    · have : has key (flat 0 t) = true := by
        unfold has
        rw [flat_zero]
        have h3 := hpt.2.2
        exact h3 ▸ rfl
      rw [this]; rfl
    · rw [E1.out]; have := HIL.out; simp; omega
    · rw [E1.out]; have := HIL.out; simp; omega
  · have hh' : hit (keys t.l) key i = false := by simpa using hh
    rw [hh']
    have hms : ∀ x, t.l[i]? = some x → x.1 ≠ key := fun x hx e => by
      have := keys_get (d := 0) hx
      rw [e] at this
      simp [hit, this] at hh
    have HMS := hid hms
    clear hh hh' hms
    go_wp2
    go_ret
    have hpt := HP.out.miss_del (by have := HS.out; rwa [flat_zero] at this) HMS.out
    have hfl : flat 0 t = del key (flat 0 t) := by
      rw [flat_zero]; exact hpt.1.symm
    refine ⟨t, ?_, Turned.refl HR.out F2.out, HOK.out, leaf_good _, hfl, Nat.le_refl _, by omega⟩
    have : has key (flat 0 t) = false := by
      unfold has
      rw [flat_zero]
      have h3 := hpt.2
      exact h3 ▸ rfl
    rw [this]; rfl
theorem dels_up {d : Nat} {lo : S} {hi : Option S} {w w2 w3 : World} {t : PT (d + 1)} {A B : List (S × Kid (d + 1))} {k : S} {x x' : PT d} {key : S} (hl : t.l = A ++ (k, up x) :: B) (hA : AllLt (flats (d + 1) A) key) (hB : AllGt (flats (d + 1) B) key)
    (h1 : Turned (d + 1) w t w2 ⟨t.b, t.k, t.c, A ++ (k, up x') :: B⟩) (hf : flat d x' = del key (flat d x)) (hx : x.l.length ≤ x'.l.length + 1) (hx' : x'.l.length ≤ x.l.length) (hx4 : 4 ≤ x.l.length) (hx8 : x.l.length ≤ 8)
    (h2 : Fitted d lo hi w2 ⟨t.b, t.k, t.c, A ++ (k, up x') :: B⟩ x'.l.length w3) {e : Ending} (he : e = .returned (.bool (has key (flat d x)))) : Dels (d + 1) lo hi w t key e w3 := by
  obtain ⟨t', a1, a2, a3, a4, a5, a6, a7, a8⟩ := h2
  have hlen : (⟨t.b, t.k, t.c, A ++ (k, up x') :: B⟩ : PT (d + 1)).l.length = t.l.length := by rw [hl]; simp
  have e1 : flat (d + 1) t = flats (d + 1) A ++ flat d x ++ flats (d + 1) B := by
    rw [flat_of hl, flats_append, flats_cons, List.append_assoc]; rfl
  have e2 : flat (d + 1) (⟨t.b, t.k, t.c, A ++ (k, up x') :: B⟩ : PT (d + 1)) = flats (d + 1) A ++ flat d x' ++ flats (d + 1) B := by
    rw [flat_of rfl, flats_append, flats_cons, List.append_assoc]; rfl
  rw [hlen] at a5 a6 a7 a8
  have h5 := a5 (by omega)
  refine ⟨t', ?_, h1.trans a1, a2, a3, ?_, h5, a8⟩
  · rw [he, e1, has_mid hA hB]
  · rw [a4, e2, hf, e1, del_mid hA hB]
set_option maxHeartbeats 4000000 in
theorem rem_any : ∀ (d : Nat) (w : World) (t : PT d) (lo : S) (hi : Option S) (key : S), Rep w d t → Ok d lo hi t → Good d t → (d = 0 ∨ 2 ≤ t.l.length) → lt key lo = false → Below hi key → t.l.length ≤ 8796093021000 →
    Calls Try.prog 73 #[val d t, .string key] w (Dels d lo hi w t key) := by
  intro d
  induction d with
  | zero => exact fun w t lo hi key hr hok _ _ hlo hhi hn => rem_leaf w t lo hi key hr hok hlo hhi hn
  | succ d ih =>
    intro w t lo hi key hr hok hg h2 hlo hhi hn
    have h2' : 2 ≤ t.l.length := h2.elim (fun e => by cases e) id
    have HIH := hid ih; have HR := hid hr; have HOK := hid hok; have HG := hid hg; have HLO := hid hlo; have HHI := hid hhi; have HN := hid hn; have H2 := hid h2'
    obtain ⟨gc, cc, hcv, hc1, hcc1, hcc2, hog, hrange⟩ := node_open hr (by omega)
    have HRG := hid hrange
    clear ih hr hok hg h2 hlo hhi hn h2' hcv hog hrange
    show Calls Try.prog _ #[.agg #[.pointer none, .pointer (some ⟨t.b, 0, none⟩)], .string key] w _
    go_enter Try.func73, Try.ntmps73
    go_wp2_with ((with_reducible show wpList _ _ _ ({ dst := _, op := .box 103 _, type := _, pos := _, after := _, guard := _ } :: _) _ _); refine wpL_box rfl _ _ rfl _ rfl [.pointer none, .pointer (some ⟨t.b, 0, none⟩)] rfl ?_; intro w1 HB1 F1 HS1; have c0 : w1.cell? ⟨w.heap.size, 0, none⟩ = some (.pointer none) := HB1.out.cell 0; have c1 : w1.cell? ⟨w.heap.size, 1, none⟩ = some (.pointer (some ⟨t.b, 0, none⟩)) := HB1.out.cell 1)
    have HR1 : Hid (Rep w1 (d + 1) t) := hid (HR.out.no F1.out)
    refine (holding_any w1 t.b _ _ (keys t.l) (cells t.l) key HR1.out.nd HOK.out.rises (by rw [keys_length]; have := H2.out; omega) (by rw [keys_length]; have := HN.out; omega)).mono ?_
    rintro e w2 ⟨j, rfl, hjk, f2⟩
    obtain ⟨A, k, (x : PT d), B, hl, hAj, hA, hB, hcA, hokx, hbk, hcB, hklo, hkhi⟩ := hold_split HOK.out hjk
    have HL : Hid (t.l = A ++ (k, up (d := d) x) :: B) := hid hl
    have HAJ := hid hAj; have HA := hid hA; have HB := hid hB
    have HOX : Hid (Ok d k (nx hi B) x) := hid hokx
    have HKL := hid (hklo HLO.out); have HKH := hid (hkhi HHI.out)
    have F2 : Hid (Fr No w w2) := hid (F1.out.trans' f2)
    have d1 : w2.cell? ⟨w.heap.size, 1, none⟩ = some (.pointer (some ⟨t.b, 0, none⟩)) := f2.cell c1 id
    have d2 : w2.cell? ⟨t.b, 1, none⟩ = some (.slice (some ⟨gc, 0, none⟩) t.l.length cc) := F2.out.cell hc1 id
    have HBX2 : Hid (Blk w2 w.heap.size 103 [.pointer none, .pointer (some ⟨t.b, 0, none⟩)]) := hid (HB1.out.fr f2 id)
    have HR2 : Hid (Rep w2 (d + 1) t) := hid (HR1.out.no f2)
    have HRX : Hid (w2.rangeAt gc (j * 2) (ptr d x)) := hid (by have := F2.out.range (HRG.out A k x B hl) id; rwa [hAj] at this)
    have hjm : (j : Int) < (t.l.length : Int) := by have : j < t.l.length := by rw [hl, ← hAj]; simp
                                                    omega
    have HGX : Hid (szK (d + 1) x ∧ goodK (d + 1) x) := hid (HG.out (k, x) (by rw [hl]; simp))
    clear hjk hl hAj hA hB hcA hokx hbk hcB hklo hkhi f2 c0 c1
    unfold maxLen at hcc2
    go_wp2_with ((with_reducible show wpList _ _ _ ({ dst := _, op := .load 103 _, type := _, pos := _, after := _, guard := _ } :: _) _ _); refine wpL_load rfl _ _ rfl gc (j * 2) rfl (ptr d x) _ HRX.out rfl rfl (by rw [ptr_length]; exact info_p) ?_)
    have hx4 : 4 ≤ (Nd.l (α := Kid d) x).length := HGX.out.1.1
    have hx8 : (Nd.l (α := Kid d) x).length ≤ 8 := HGX.out.1.2
    have HX4 := hid hx4; have HX8 := hid hx8
    clear hx4 hx8
    refine (HIH.out w2 x k (nx hi B) key (repK_succ.1 (HR2.out.kids.rep (k, x) (by rw [HL.out]; simp))) HOX.out HGX.out.2 (.inr (by have := HX4.out; omega)) HKL.out HKH.out (by have := HX8.out; omega)).mono ?_
    rintro e w3 ⟨x', rfl, htn, hox', hgx', hfx, hxl1, hxl⟩
    have TN := hid htn
    have HT1 := hid (rep_kid HR2.out HL.out htn)
    have HOX' := hid hox'; have HGX' := hid hgx'; have HFX := hid hfx; have HXL := hid hxl; have HXL1 := hid hxl1
    clear htn hox' hgx' hfx hxl hxl1
    have hbx : ¬ fp d x w.heap.size := fun e => by
      have := HR.out.lt _ (.inr ⟨(k, x), by rw [HL.out]; simp, e⟩); omega
    have HBX3 : Hid (Blk w3 w.heap.size 103 [.pointer none, .pointer (some ⟨t.b, 0, none⟩)]) := hid (HBX2.out.fr TN.out.fr hbx)
    clear hbx d1 d2
    generalize hb : has key (flat d x) = was at *
    have HBB := hid hb
    clear hb
    go_wp2_with ((with_reducible show wpList _ _ _ ({ dst := _, op := .load 103 _, type := _, pos := _, after := _, guard := _ } :: _) _ _); refine wpL_load rfl _ _ rfl w.heap.size 0 rfl [.pointer none, .pointer (some ⟨t.b, 0, none⟩)] _ (HBX3.out.range 0 _ rfl) rfl rfl info_p ?_)
    have hok1 : Ok (d + 1) lo hi (⟨t.b, t.k, t.c, A ++ (k, up x') :: B⟩ : PT (d + 1)) := by
      have h1 := HOK.out.1; have h2 := HOK.out.2
      rw [HL.out] at h1 h2
      exact ⟨chain_put h1 HOX'.out, first_put h2⟩
    have hlen : (A ++ (k, up x') :: B).length = t.l.length := by rw [HL.out]; simp
    have hfit := fit_any d w3 ⟨t.b, t.k, t.c, A ++ (k, up x') :: B⟩ A B k x' lo hi HT1.out.rep rfl hok1 (fun y hy => HG.out y (by rw [HL.out]; rcases List.mem_append.1 hy with h | h <;> simp [h])) HGX'.out (by have := HX4.out; have := HXL.out; omega) (by have := HX8.out; have := HXL1.out; omega) (by simp only [hlen]; exact H2.out) (by simp only [hlen]; have := HN.out; omega)
    rw [HAJ.out] at hfit
    have HFIT := hid hfit
    clear hfit hok1 hlen
    refine HFIT.out.mono ?_
    rintro e w4 ⟨rfl, hfd⟩
    have HFD := hid hfd
    clear hfd
    go_wp2
    go_ret
    exact dels_up HL.out HA.out HB.out (HT1.out.pre F2.out) HFX.out HXL.out HXL1.out HX4.out HX8.out HFD.out (by rw [HBB.out]; rfl)
end Go.Proofs.Ytlnolnaapnijbaa.TR
