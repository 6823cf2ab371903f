/-
  Parts: get, depth.
-/
import Derived.Test.YtlnolnaapnijbaaTrZr
namespace Go.Proofs.Ytlnolnaapnijbaa.TR
set_option maxRecDepth 100000
open Go.RowKit K

theorem exists_least (P : Nat → Prop) : ∀ n, P n → ∃ m, P m ∧ ∀ e, P e → m ≤ e := by
  intro n
  induction n using Nat.strongRecOn with
  | ind n ih =>
    intro h
    by_cases hk : ∃ k, k < n ∧ P k
    · obtain ⟨k, h1, h2⟩ := hk
      exact ih k h1 h2
    · refine ⟨n, h, fun e he => ?_⟩
      rcases Nat.lt_or_ge e n with h1 | h1
      · exact absurd ⟨e, h1, he⟩ hk
      · exact h1
theorem least (P : World → Nat → Prop) : ∃ m : World → Nat, ∀ w, (∃ d, P w d) → P w (m w) ∧ ∀ e, P w e → m w ≤ e := by
  have h : ∀ w, ∃ n, (∃ d, P w d) → P w n ∧ ∀ e, P w e → n ≤ e := fun w => by
    by_cases hd : ∃ d, P w d
    · obtain ⟨d, hd⟩ := hd
      obtain ⟨m, h1, h2⟩ := exists_least (P w) d hd
      exact ⟨m, fun _ => ⟨h1, h2⟩⟩
    · exact ⟨0, fun h => absurd h hd⟩
  exact ⟨fun w => Classical.choose (h w), fun w => Classical.choose_spec (h w)⟩
/-- What is below is as it should be. -/
structure Fine (d : Nat) (t : PT d) : Prop where
  ok : ∃ lo hi, Ok d lo hi t
  good : Good d t
  two : d = 0 ∨ 1 ≤ t.l.length
  len : t.l.length ≤ 8796093021000
theorem Fine.kid {d : Nat} {t : PT (d + 1)} (h : Fine (d + 1) t) {A B : List (S × Kid (d + 1))} {k : S} {x : PT d} (hl : t.l = A ++ (k, up x) :: B) : Fine d x := by
  obtain ⟨lo, hi, hok⟩ := h.ok
  have h1 := hok.1
  rw [hl] at h1
  have hg := h.good (k, up x) (by rw [hl]; simp)
  have h4 : 4 ≤ x.l.length := hg.1.1
  have h8 : x.l.length ≤ 8 := hg.1.2
  exact ⟨⟨_, _, (chain_kid h1).1⟩, hg.2, .inr (by omega), by omega⟩
/-- A variable that holds a part. -/
def Box (w : World) (bp : Nat) (key : S) (g : Option S) (d : Nat) : Prop := ∃ t : PT d, Blk w bp 103 (ptr d t) ∧ Rep w d t ∧ Fine d t ∧ get key (flat d t) = g ∧ ¬ fp d t bp
/-- A whole array or struct is read, as one operation of a region. -/
theorem wp_loadA {P : Program} {Q : Exit → Act → World → Prop} {K : Act → World → Prop} {op : Oper} {a : Act} {w : World} (ty : TypeId) (x : Operand) (ho : op.op = .load ty x) (b o : Nat) (hx : a.eval x = .pointer (some ⟨b, o, none⟩)) (cs : List Value) (d : TypeDesc)
    (hu : P.underlying ty = some d) (hd : d.isRow = true) (hi : (P.info? ty).map (·.size) = some cs.length) (hc : w.rangeAt b o cs) (h : K (a.put op.dst (.agg cs.toArray)) w) : op.wp P a w K Q := by
  unfold Oper.wp
  rw [exec_load ty x ho b o hx cs d hu hd hi w hc]
  exact h
def getV (g : Option S) : Value := .tuple #[.string (g.getD ⟨#[]⟩), .bool g.isSome]
set_option maxHeartbeats 4000000 in
theorem pget_any (d : Nat) (w : World) (t : PT d) (key : S) (hr : Rep w d t) (hf : Fine d t) : Calls Try.prog 75 #[val d t, .string key] w fun e w' => e = .returned (getV (get key (flat d t))) ∧ Fr No w w' := by
  obtain ⟨m, hm⟩ := least (fun w' d' => Box w' w.heap.size key (get key (flat d t)) d')
  have HM := hid hm
  have HR := hid hr; have HFN := hid hf
  clear hm hr hf
  obtain ⟨vp, vq, hv, hp1, hp2⟩ := val_agg d t
  have hpl : ptr d t = [vp, vq] := by
    have : (val d t) = .agg (ptr d t).toArray := rfl
    rw [hv] at this
    have h2 : #[vp, vq] = (ptr d t).toArray := by injection this
    simpa using (congrArg Array.toList h2).symm
  have HPL := hid hpl
  rw [hv]
  clear hv hpl
  generalize hg : get key (flat d t) = g at *
  have HG := hid hg
  clear hg
  go_enter Try.func75, Try.ntmps75
  go_wp2_with ((with_reducible show wpList _ _ _ ({ dst := _, op := .box 103 _, type := _, pos := _, after := _, guard := _ } :: _) _ _); refine wpL_box rfl _ _ rfl _ rfl [vp, vq] rfl ?_; intro w1 HB1 F1 HS1)
  go_loopw [] (fun wr => Hid (∃ d, Box wr w.heap.size key g d) ∧ Hid (Fr (fun k => k = w.heap.size) w1 wr)) (fun wr => m wr)
  case atStart =>
    refine ⟨hid ⟨d, t, ?_, HR.out.no F1.out, HFN.out, HG.out, fun e => ?_⟩, hid (Fr.refl _ _)⟩
    · rw [HPL.out]; exact HB1.out
    · have := HR.out.lt _ e; omega
  case round =>
    obtain ⟨HBX, HF⟩ := hrel
    obtain ⟨h1, h2⟩ := HM.out wr HBX.out
    have H2 := hid h2
    clear h2
    rcases hd : m wr with _ | d0
    · rw [hd] at h1
      obtain ⟨t0, hB0, hr0, hf0, hg0, hn0⟩ := h1
      have HB0 := hid hB0; have HR0 := hid hr0; have HG0 := hid hg0
      obtain ⟨lo, hi, hok⟩ := hf0.ok
      have HOK := hid hok; have HLN := hid hf0.len
      have c0 : wr.cell? ⟨w.heap.size, 0, none⟩ = some (.pointer (some ⟨t0.b, 0, none⟩)) := hB0.cell 0
      clear hB0 hr0 hf0 hg0 hn0 hok hd H2
      go_wp2_with fail
      refine (position_any wr t0.b _ _ (keys t0.l) (cells t0.l) key HR0.out.nd HOK.out.rises (by rw [keys_length]; have := HLN.out; omega)).mono ?_
      rintro e w2 ⟨i, rfl, hpk, f2⟩
      have HP := hid (leaf_part hpk)
      have HR2 : Hid (Rep w2 0 t0) := hid (HR0.out.no f2)
      have d0 : w2.cell? ⟨w.heap.size, 0, none⟩ = some (.pointer (some ⟨t0.b, 0, none⟩)) := f2.cell c0 id
      have HFF : Hid (Fr No w w2) := hid ((F1.out.trans (D' := fun k => k = w.heap.size) HF.out (fun k e => .inr (by rw [e]; exact Nat.le_refl _))).trans' f2)
      clear hpk f2 c0
      by_cases hh : hit (keys t0.l) key i = true
      · rw [hh]
        have hx : (keys t0.l)[i]? = some key := by simpa [hit] using hh
        obtain ⟨x, hx⟩ : ∃ x, t0.l[i]? = some (key, x) := by
          unfold keys at hx
          rw [List.getElem?_map] at hx
          cases he : t0.l[i]? with
          | none => rw [he] at hx; cases hx
          | some y =>
            rw [he] at hx
            have : y.1 = key := by simpa using hx
            exact ⟨y.2, by rw [← this]⟩
        have HX := hid hx
        obtain ⟨hil, -⟩ := List.getElem?_eq_some_iff.1 hx
        have hrc := HR2.out.nd.rc
        rw [keys_length] at hrc
        obtain ⟨gc, cc, cur, hcv, hB, hc1, hc2, hc3, hc4⟩ := own_open hrc (by omega)
        have d1 : w2.cell? ⟨t0.b, 1, none⟩ = some (.slice (some ⟨gc, 0, none⟩) t0.l.length cc) := by rw [← hcv]; exact HR2.out.nd.blk.cell 1
        have d2 : w2.cell? ⟨gc, i, none⟩ = some (.string (x : S)) := by
          rw [hB.cell]
          have h5 : (cells t0.l)[i]? = some (Value.string (x : S)) := by rw [leaf_cells, List.getElem?_map, hx]; rfl
          rw [← hc4, List.getElem?_take] at h5
          split at h5
          · exact h5
          · cases h5
        have hil' : (i : Int) < (t0.l.length : Int) := by omega
        clear hrc hcv hB hc1 hc2 hc3 hc4 hx hh
        go_wp2
        go_ret2
        refine ⟨?_, HFF.out⟩
        have hpt := HP.out.hit (k := key) HX.out rfl key
        have h6 : g = some (x : S) := by rw [← HG0.out, flat_zero]; exact hpt.2.2
        rw [h6]; rfl
      · have hh' : hit (keys t0.l) key i = false := by simpa using hh
        rw [hh']
        have hms : ∀ x, t0.l[i]? = some x → x.1 ≠ key := fun x hx e => by
          have := keys_get (d := 0) hx
          rw [e] at this
          simp [hit, this] at hh
        have HMS := hid hms
        clear hh hh' hms
        go_wp2
        go_ret2
        refine ⟨?_, HFF.out⟩
        have hsr := ok_sorted HOK.out
        have hpt := HP.out.miss_del (by rwa [flat_zero] at hsr) HMS.out
        have h6 : g = none := by rw [← HG0.out, flat_zero]; exact hpt.2
        rw [h6]; rfl
    · rw [hd] at h1
      obtain ⟨t0, hB0, hr0, hf0, hg0, hn0⟩ := h1
      have HD := hid hd
      have HB0 : Hid (Blk wr w.heap.size 103 [.pointer none, .pointer (some ⟨t0.b, 0, none⟩)]) := hid hB0
      have HR0 := hid hr0; have HG0 := hid hg0; have HF0 := hid hf0; have HN0 := hid hn0
      obtain ⟨lo, hi, hok⟩ := hf0.ok
      have HOK := hid hok
      have hlen : 1 ≤ t0.l.length := hf0.two.elim (fun e => by cases e) id
      have HLN := hid hlen
      obtain ⟨gc, cc, hcv, hc1, hcc1, hcc2, hog, hrange⟩ := node_open hr0 hlen
      have HRG := hid hrange
      have c0 : wr.cell? ⟨w.heap.size, 0, none⟩ = some (.pointer none) := HB0.out.cell 0
      have c1 : wr.cell? ⟨w.heap.size, 1, none⟩ = some (.pointer (some ⟨t0.b, 0, none⟩)) := HB0.out.cell 1
      clear hB0 hr0 hf0 hg0 hn0 hok hd hcv hog hrange hlen
      unfold maxLen at hcc2
      go_wp2_with fail
      have hold : Facts.hold [(1, fun w' => w'.cell? ⟨w.heap.size, 1, none⟩ = some (.pointer (some ⟨t0.b, 0, none⟩))), (4, fun w' => w'.cell? ⟨t0.b, 1, none⟩ = some (.slice (some ⟨gc, 0, none⟩) t0.l.length cc)), (6, fun w' => w'.cell? ⟨w.heap.size, 1, none⟩ = some (.pointer (some ⟨t0.b, 0, none⟩)))] wr.drew := Facts.cons_hold c1 (Facts.cons_hold hc1 (Facts.cons_hold c1 (Facts.nil_hold _)))
      refine wpD_region hold (by kernel_rfl) 12 rfl ?_
      (refine wpD_plain 0 (v := ?_) rfl (by kernel_rfl) (by kernel_rfl) (by kernel_rfl) (fun _ _ _ h => h) (by rfl) ?_ (by assumption) ?_; rotate_left; (intro _w; go_simp; try with_reducible rfl); simp only [Act.put, List.setIfInBounds_toArray, List.set_cons_zero, List.set_cons_succ])
      (refine wpD_take 1 _ rfl (by kernel_rfl) (by kernel_rfl) (by kernel_rfl) (fun _ _ _ h => h) List.mem_cons_self (by rfl) (v := ?_) ?_ (by assumption) ?_; rotate_left; (intro _w _hw; go_simp; try with_reducible rfl); simp only [Act.put, List.setIfInBounds_toArray, List.set_cons_zero, List.set_cons_succ])
      (refine wpD_plain 2 (v := ?_) rfl (by kernel_rfl) (by kernel_rfl) (by kernel_rfl) (fun _ _ _ h => h) (by rfl) ?_ (by assumption) ?_; rotate_left; (intro _w; go_simp; try with_reducible rfl); simp only [Act.put, List.setIfInBounds_toArray, List.set_cons_zero, List.set_cons_succ])
      (refine wpD_plain 3 (v := ?_) rfl (by kernel_rfl) (by kernel_rfl) (by kernel_rfl) (fun _ _ _ h => h) (by rfl) ?_ (by assumption) ?_; rotate_left; (intro _w; go_simp; try with_reducible rfl); simp only [Act.put, List.setIfInBounds_toArray, List.set_cons_zero, List.set_cons_succ])
      (refine wpD_take 4 _ rfl (by kernel_rfl) (by kernel_rfl) (by kernel_rfl) (fun _ _ _ h => h) (List.mem_cons_of_mem _ List.mem_cons_self) (by rfl) (v := ?_) ?_ (by assumption) ?_; rotate_left; (intro _w _hw; go_simp; try with_reducible rfl); simp only [Act.put, List.setIfInBounds_toArray, List.set_cons_zero, List.set_cons_succ])
      (refine wpD_plain 5 (v := ?_) rfl (by kernel_rfl) (by kernel_rfl) (by kernel_rfl) (fun _ _ _ h => h) (by rfl) ?_ (by assumption) ?_; rotate_left; (intro _w; go_simp; try with_reducible rfl); simp only [Act.put, List.setIfInBounds_toArray, List.set_cons_zero, List.set_cons_succ])
      (refine wpD_take 6 _ rfl (by kernel_rfl) (by kernel_rfl) (by kernel_rfl) (fun _ _ _ h => h) (List.mem_cons_of_mem _ (List.mem_cons_of_mem _ List.mem_cons_self)) (by rfl) (v := ?_) ?_ (by assumption) ?_; rotate_left; (intro _w _hw; go_simp; try with_reducible rfl); simp only [Act.put, List.setIfInBounds_toArray, List.set_cons_zero, List.set_cons_succ])
      (refine wpD_plain 7 (v := ?_) rfl (by kernel_rfl) (by kernel_rfl) (by kernel_rfl) (fun _ _ _ h => h) (by rfl) ?_ (by assumption) ?_; rotate_left; (intro _w; go_simp; try with_reducible rfl); simp only [Act.put, List.setIfInBounds_toArray, List.set_cons_zero, List.set_cons_succ])
      clear hold
      refine wpD_only 8 [(1, fun w' => w'.cell? ⟨w.heap.size, 1, none⟩ = some (.pointer (some ⟨t0.b, 0, none⟩))), (4, fun w' => w'.cell? ⟨t0.b, 1, none⟩ = some (.slice (some ⟨gc, 0, none⟩) t0.l.length cc))] rfl (by kernel_rfl) (by kernel_rfl) (by rfl) (fun K8 hK8 => ?_)
      refine wp_call (.func 78) _ _ rfl 78 [] rfl (fun vs w => by kernel_rfl) [.pointer (some ⟨t0.b, 0, none⟩), .string key] (by rfl) ?_
      refine (holding_any wr.drew t0.b _ _ (keys t0.l) (cells t0.l) key (HR0.out.no (Fr.refl No wr).drew).nd HOK.out.rises (by rw [keys_length]; have := HLN.out; omega) (by rw [keys_length]; have := HF0.out.len; omega)).mono ?_
      rintro e w2 ⟨j, rfl, hjk, f2⟩
      have hf2 : Fr No wr w2 := (Fr.refl No wr).drew.trans' f2
      obtain ⟨A, k, (x : PT d0), B, hl, hAj, hA, hB, hcA, hokx, hbk, hcB, hklo, hkhi⟩ := hold_split HOK.out hjk
      have HL : Hid (t0.l = A ++ (k, up (d := d0) x) :: B) := hid hl
      have HA := hid hA; have HB := hid hB
      have HRX : Hid (w2.rangeAt gc (j * 2) (ptr d0 x)) := hid (by have := hf2.range (HRG.out A k x B hl) id; rwa [hAj] at this)
      have hjt : j < t0.l.length := by rw [hl, ← hAj]; simp
      have hjm : (j : Int) < (t0.l.length : Int) := by omega
      have F2 := hid hf2
      have hold : Facts.hold [(1, fun w' => w'.cell? ⟨w.heap.size, 1, none⟩ = some (.pointer (some ⟨t0.b, 0, none⟩))), (4, fun w' => w'.cell? ⟨t0.b, 1, none⟩ = some (.slice (some ⟨gc, 0, none⟩) t0.l.length cc))] w2 := Facts.cons_hold (hf2.cell c1 id) (Facts.cons_hold (hf2.cell hc1 id) (Facts.nil_hold _))
      refine ⟨_, rfl, hK8 _ _ hold ?_⟩
      clear hjk hl hAj hA hB hcA hokx hbk hcB hklo hkhi f2 hf2 hK8 K8
      simp only [Act.put, List.setIfInBounds_toArray, List.set_cons_zero, List.set_cons_succ]
      (refine wpD_plain 9 (v := (.pointer (some ⟨gc, j * 2, none⟩))) rfl (by kernel_rfl) (by kernel_rfl) (by kernel_rfl) (fun _ _ _ h => h) (by rfl) ?_ (by assumption) ?_; (intro _w; go_simp; skip); simp only [Act.put, List.setIfInBounds_toArray, List.set_cons_zero, List.set_cons_succ])
      refine wpD_only 10 [(1, fun w' => w'.cell? ⟨w.heap.size, 1, none⟩ = some (.pointer (some ⟨t0.b, 0, none⟩))), (4, fun w' => w'.cell? ⟨t0.b, 1, none⟩ = some (.slice (some ⟨gc, 0, none⟩) t0.l.length cc))] rfl (by kernel_rfl) (by kernel_rfl) (by rfl) (fun K10 hK10 => ?_)
      refine wp_loadA _ _ rfl gc (j * 2) rfl (ptr d0 x) _ rfl rfl (by rw [ptr_length]; exact info_p) HRX.out ?_
      refine hK10 _ _ hold ?_
      clear hK10 K10 hold
      simp only [Act.put, List.setIfInBounds_toArray, List.set_cons_zero, List.set_cons_succ]
      refine wpD_only 11 [] rfl (by kernel_rfl) (by kernel_rfl) (by rfl) (fun K11 hK11 => ?_)
      refine wp_storeV _ _ _ rfl w.heap.size 0 (.agg (ptr d0 x).toArray) (ptr d0 x) rfl rfl rfl _ _ (HB0.out.fr F2.out id) (by rw [ptr_length]; simp) (by rw [ptr_length]; exact info_p) (ptr_one d0 x) ?_
      intro w3 HB3 F3 HS3
      refine hK11 _ _ (Facts.nil_hold _) ?_
      clear hK11 K11
      refine wpD_done (by kernel_rfl) ?_ _
      simp only [Act.put, List.setIfInBounds_toArray, List.set_cons_zero, List.set_cons_succ]
      clear c0 c1 hc1
      have hmx : (k, up (d := d0) x) ∈ t0.l := by rw [HL.out]; simp
      have hne : ¬ fp d0 x w.heap.size := fun e => HN0.out (.inr ⟨_, hmx, e⟩)
      have hrx : Rep w3 d0 x := ((repK_succ.1 (HR0.out.kids.rep _ hmx)).no F2.out).fr F3.out (fun g hg e => hne (by have e' : g = w.heap.size := e; rw [← e']; exact hg))
      have hbx : Blk w3 w.heap.size 103 (ptr d0 x) := by
        have := HB3.out
        rwa [show spl [.pointer none, .pointer (some ⟨t0.b, 0, none⟩)] 0 (ptr d0 x) = ptr d0 x from by
          unfold spl
          rw [ptr_length]; simp] at this
      have hgx : get key (flat d0 x) = g := by
        rw [← HG0.out, flat_of HL.out, flats_append, flats_cons]
        have := get_mid HA.out HB.out (M := flat d0 x)
        rw [List.append_assoc] at this
        exact this.symm
      have hBox : Box w3 w.heap.size key g d0 := ⟨x, hbx, hrx, HF0.out.kid HL.out, hgx, hne⟩
      have hrel' : Hid (∃ d, Box w3 w.heap.size key g d) ∧ Hid (Fr (fun k => k = w.heap.size) w1 w3) := ⟨hid ⟨d0, hBox⟩, hid ((HF.out.trans' F2.out.no).trans' F3.out)⟩
      have hms : m w3 < d0 + 1 := by
        have := (HM.out w3 ⟨d0, hBox⟩).2 d0 hBox
        omega
      have HRL := hid hrel'; have HMS := hid hms
      clear hrel' hms hmx hne hrx hbx hgx hBox
      go_wp2
      exact ⟨HRL.out, HMS.out⟩
end Go.Proofs.Ytlnolnaapnijbaa.TR
