/-
  The walk of TreeApart.
-/
import Derived.Test.YtlnolnaapnijbaaTrDo
namespace Go.Proofs.Ytlnolnaapnijbaa.TR
set_option maxRecDepth 100000
open Go.RowKit K

theorem info_rt : (Try.prog.info? 48).map (·.size) = some 1 := by kernel_rfl
/-- What is kept while the other one is acted on. -/
structure Apt (W w : World) (bt : Nat) (Tt : TD) (l : L) (bu : Nat) (Tu : TD) (lu : L) (br : Nat) (v : Value) (lr : L) (pv : Value) (lo hi : Nat) : Prop where
  two : Two W w bu Tu lu br v lr
  t : Lv W w bt Tt l
  p : PrNew w lo pv l
  s : Sorted lr
  hle : hi ≤ w.heap.size
  ap : ∀ k, Tt.fp k ∨ (lo ≤ k ∧ k < hi) → k < w.heap.size ∧ ¬ Tu.fp k ∧ k ≠ br ∧ v.ownBlock ≠ some k
  ph : ∀ a n c g, pv = .slice a n c → a = some ⟨g, 0, none⟩ → n ≠ 0 → g < hi
theorem Apt.step {W w w' : World} {bt bu br : Nat} {Tt Tu : TD} {l lu lr lu' lr' : L} {v pv : Value} {lo hi : Nat} {Q : Bool → Prop} {e : Ending} (h : Apt W w bt Tt l bu Tu lu br v lr pv lo hi) (hs : Sorted lr') (hp : DPost W w bu Tu br v lu' lr' Q e w') :
    ∃ q Tu' v', e = .returned (.bool q) ∧ Apt W w' bt Tt l bu Tu' lu' br v' lr' pv lo hi := by
  obtain ⟨q, T', v', rfl, -, h2, hf, hg, hv⟩ := hp
  refine ⟨q, T', v', rfl, h2, ⟨h.t.b, h.t.at_.fr hf ?_, h2.t.fr, h.t.ge⟩, ?_, hs, Nat.le_trans h.hle hf.size, ?_, h.ph⟩
  · intro k hk e
    have h3 := h.ap k (.inl hk)
    rcases e with e | e | e
    · exact h3.2.1 e
    · exact h3.2.2.1 e
    · exact h3.2.2.2 e
  · obtain ⟨a, c, e, hp⟩ := h.p
    refine ⟨a, c, e, ?_⟩
    by_cases hl : l = []
    · exact .inl hl
    · rcases hp with hp | ⟨g, ea, hr, hb, hg⟩
      · exact absurd hp hl
      · have hgh := h.ph a _ c g e ea (fun e2 => hl (List.eq_nil_of_length_eq_zero e2))
        refine .inr ⟨g, ea, hf.range hr (fun e => ?_), hb, Nat.lt_of_lt_of_le hg hf.size⟩
        have h3 := h.ap g (.inr ⟨hb, hgh⟩)
        rcases e with e | e | e
        · exact h3.2.1 e
        · exact h3.2.2.1 e
        · exact h3.2.2.2 e
  · intro k hk
    have h3 := h.ap k hk
    refine ⟨Nat.lt_of_lt_of_le h3.1 hf.size, fun e => ?_, h3.2.2.1, fun e => ?_⟩
    · rcases hg k e with e | e
      · exact h3.2.1 e
      · omega
    · rcases hv k e with e | e
      · exact h3.2.2.2 e
      · omega
theorem cells_ac {w : World} {g o i : Nat} {x : Ac} (h : w.rangeAt g (o + i * 4) x.cells) : w.cell? ⟨g, o + i * 4, none⟩ = some (.int .i64 x.how) ∧ w.cell? ⟨g, o + i * 4 + 1, none⟩ = some (.string x.key) ∧ w.cell? ⟨g, o + i * 4 + 2, none⟩ = some (.string x.value) ∧ w.cell? ⟨g, o + i * 4 + 3, none⟩ = some (.int .i64 x.most) :=
  ⟨h 0 _ rfl, h 1 _ rfl, h 2 _ rfl, h 3 _ rfl⟩
set_option maxHeartbeats 16000000 in
theorem treeApart_walk (W : World) (v0 v1 : Value) (x0 : L) (x1 : List Ac) (other : Bool) (h0 : PrAt W v0 x0) (h1 : AcsIn W W.heap.size v1 x1) : Calls Try.prog 5 #[v0, v1, .bool other] W fun e W' => e = .returned (.bool true) ∧ Fr No W W' := by
  have H0 := hid h0
  obtain ⟨a0, c0, rfl, hn0, -⟩ := h0
  obtain ⟨a1, c1, rfl, hn1, h1⟩ := h1
  have H1 := hid h1
  have hn1i : (x1.length : Int) ≤ 4398046511104 := by omega
  have hol := ofL_length x0
  obtain ⟨l, hl⟩ : ∃ l, ofL x0 = l := ⟨_, rfl⟩
  have HLN : Hid (l.length ≤ 4398046511000) := hid (by rw [hl] at hol; omega)
  clear hn0 hol h1 hn1
  go_enter Try.func5, Try.ntmps5
  go_wp2_with fail
  refine (awake_any W).mono ?_
  rintro e w1 ⟨rfl, f1⟩
  have F1 := hid f1
  clear f1
  go_wp2_with fail
  refine (of_any w1 _ x0 (H0.out.no F1.out)).mono ?_
  rintro e w2 ⟨b, T, rfl, t2⟩
  rw [hl] at t2
  have HT := hid (t2.pre F1.out)
  clear t2 hl
  go_wp2_with fail
  refine (HT.out.clone (by have := HLN.out; omega)).mono ?_
  rintro e w3 ⟨b', T', rfl, t3⟩
  have HT3 := hid (HT.out.no t3.fr)
  have HU3 := hid (t3.pre HT.out.fr)
  have HD3 : Hid (∀ k, ¬ (T.fp k ∧ T'.fp k)) := hid (fun k ⟨h1, h2⟩ => by have := HT.out.at_.lt k h1; have := t3.ge k h2; omega)
  clear t3
  cases other with
  | false =>
    go_wp2_with fail
    refine (HT3.out.all (by have := HLN.out; omega)).mono ?_
    rintro e w4 ⟨pv, rfl, p4, t4, f4⟩
    have HT4 := hid t4; have HU4 := hid (HU3.out.no f4); have HP4 := hid p4; have F4 := hid f4
    obtain ⟨a4, c4, rfl, hp4⟩ := p4
    have HPH : Hid (∀ a n c g, (Value.slice a4 l.length c4) = .slice a n c → a = some ⟨g, 0, none⟩ → n ≠ 0 → g < w4.heap.size) := hid (fun a n c g e ea hn => by
      simp only [Value.slice.injEq] at e
      obtain ⟨rfl, rfl, rfl⟩ := e
      rcases hp4 with e | ⟨g', e, -, -, hg⟩
      · rw [e] at hn; simp at hn
      · rw [ea] at e; cases e; exact hg)
    clear t4 f4 hp4
    go_wp2_with ((with_reducible show wpList _ _ _ ({ dst := _, op := .box 48 _, type := _, pos := _, after := _, guard := _ } :: _) _ _); refine wpL_box rfl _ _ rfl _ rfl [.slice none 0 0] rfl ?_; intro w5 HB5 F5 HS5)
    have HA : Hid (Apt W w5 b T l b' T' l w4.heap.size (.slice none 0 0) [] (.slice a4 l.length c4) w3.heap.size w4.heap.size) := hid (by
      have hw : W.heap.size ≤ w4.heap.size := HT4.out.fr.size
      refine ⟨⟨HU4.out.no F5.out, ⟨HB5.out, ⟨rfl, .inl ⟨rfl, rfl⟩⟩, (fun e => by cases e), hw, HT4.out.fr.trans' F5.out⟩, fun e => absurd (HU4.out.at_.lt _ e) (Nat.lt_irrefl _), fun g e => by cases e⟩, HT4.out.no F5.out, HP4.out.fr F5.out (fun _ _ _ e => e), List.Pairwise.nil, F5.out.size, ?_, HPH.out⟩
      intro k hk
      have hlt : k < w4.heap.size := hk.elim (HT4.out.at_.lt k) (fun e => e.2)
      refine ⟨Nat.lt_of_lt_of_le hlt F5.out.size, fun e => ?_, (fun e => by omega), (fun e => by cases e)⟩
      rcases hk with hk | hk
      · exact HD3.out k ⟨hk, e⟩
      · have := HU3.out.at_.lt k e; omega)
    obtain ⟨br, hbr⟩ : ∃ n, w4.heap.size = n := ⟨_, rfl⟩
    obtain ⟨lo, hlo⟩ : ∃ n, w3.heap.size = n := ⟨_, rfl⟩
    rw [hlo] at HA
    rw [hbr] at HA ⊢
    clear hbr hlo HP4 HPH HB5 HS5
    go_wp2_with fail
    go_loopw [13] (fun i wr => ∃ (j : Nat) (Tu : TD) (lu lr : L) (v : Value), j ≤ x1.length ∧ j ≤ 100 ∧ i = .int .i64 (j : Int) ∧ lu.length ≤ l.length + j ∧ lr.length ≤ j ∧ Hid (Apt W wr b T l b' Tu lu br v lr (.slice a4 l.length c4) lo br)) (fun i _ => 100 - (intOf i).toNat)
    case atStart => exact ⟨0, _, _, _, _, by omega, by omega, rfl, by omega, by simp, HA⟩
    case round =>
      obtain ⟨j, Tu, lu, lr, v, hj, hj2, rfl, hlu, hlr, HA⟩ := hrel
      by_cases hlt : j < x1.length ∧ j < 100
      · obtain ⟨hlt1, hlt2⟩ := hlt
        have hlt1' : (j : Int) < (x1.length : Int) := by omega
        have hlt2' : (j : Int) < 100 := by omega
        obtain ⟨x, hx⟩ : ∃ x, x1[j]? = some x := ⟨_, List.getElem?_eq_getElem hlt1⟩
        obtain ⟨g, o, rfl, -, hr⟩ := H1.out j x hx
        obtain ⟨k0, k1, k2, k3⟩ := cells_ac (HA.out.t.fr.range hr id)
        clear hr hx
        by_cases h5 : x.how < 5
        · go_wp2_with fail
          refine (does_any W wr b' br Tu v lu lr x HA.out.two HA.out.s (by have := HLN.out; omega) (by omega)).mono ?_
          rintro e w6 hp
          obtain ⟨q, Tu', v', rfl, ha⟩ := HA.out.step (stp_sorted x HA.out.s) hp
          have HA6 := hid ha
          have e1 := stp_length x lu
          have e2 := stp_length x lr
          clear hp ha k0 k1 k2 k3
          go_wp2_with fail
          exact ⟨⟨j + 1, Tu', stp x lu, stp x lr, v', by omega, by omega, by go_num, by omega, by omega, HA6⟩, by simp [intOf]; omega⟩
        · have h5' : ¬ (x.how < 5) := h5
          go_wp2_with fail
          exact ⟨⟨j + 1, Tu, lu, lr, v, by omega, by omega, by go_num, by omega, by omega, HA⟩, by simp [intOf]; omega⟩
      · have HA' := HA
        clear HA
        have hcase : x1.length ≤ j ∨ (j < x1.length ∧ j = 100) := by omega
        rcases hcase with hge | ⟨hge, h100⟩
        · have hge' : ¬ ((j : Int) < (x1.length : Int)) := by omega
          go_wp2_with fail
          refine (HA'.out.t.all (by have := HLN.out; omega)).mono ?_
          rintro e w7 ⟨pv7, rfl, p7, t7, f7⟩
          have HT7 := hid t7; have F7 := hid f7
          have HP7 := hid p7.pr
          obtain ⟨a7, c7, rfl, -⟩ := p7
          clear t7 f7
          go_wp2_with fail
          refine (same_any w7 _ _ l l (HA'.out.p.pr.no F7.out) HP7.out (by have := HLN.out; omega) (by have := HLN.out; omega)).mono ?_
          rintro e w8 ⟨rfl, f8⟩
          have HF8 := hid (HT7.out.fr.trans' f8)
          have hdec : decide (l = l) = true := by simp
          rw [hdec]
          clear f8 hdec
          go_wp2_with fail
          go_ret
          exact ⟨rfl, HF8.out⟩
        · have hge' : (j : Int) < (x1.length : Int) := by omega
          have h100' : ¬ ((j : Int) < 100) := by omega
          go_wp2_with fail
          refine (HA'.out.t.all (by have := HLN.out; omega)).mono ?_
          rintro e w7 ⟨pv7, rfl, p7, t7, f7⟩
          have HT7 := hid t7; have F7 := hid f7
          have HP7 := hid p7.pr
          obtain ⟨a7, c7, rfl, -⟩ := p7
          clear t7 f7
          go_wp2_with fail
          refine (same_any w7 _ _ l l (HA'.out.p.pr.no F7.out) HP7.out (by have := HLN.out; omega) (by have := HLN.out; omega)).mono ?_
          rintro e w8 ⟨rfl, f8⟩
          have HF8 := hid (HT7.out.fr.trans' f8)
          have hdec : decide (l = l) = true := by simp
          rw [hdec]
          clear f8 hdec
          go_wp2_with fail
          go_ret
          exact ⟨rfl, HF8.out⟩
  | true =>
    go_wp2_with fail
    refine (HU3.out.all (by have := HLN.out; omega)).mono ?_
    rintro e w4 ⟨pv, rfl, p4, t4, f4⟩
    have HT4 := hid t4; have HU4 := hid (HT3.out.no f4); have HP4 := hid p4; have F4 := hid f4
    obtain ⟨a4, c4, rfl, hp4⟩ := p4
    have HPH : Hid (∀ a n c g, (Value.slice a4 l.length c4) = .slice a n c → a = some ⟨g, 0, none⟩ → n ≠ 0 → g < w4.heap.size) := hid (fun a n c g e ea hn => by
      simp only [Value.slice.injEq] at e
      obtain ⟨rfl, rfl, rfl⟩ := e
      rcases hp4 with e | ⟨g', e, -, -, hg⟩
      · rw [e] at hn; simp at hn
      · rw [ea] at e; cases e; exact hg)
    clear t4 f4 hp4
    go_wp2_with ((with_reducible show wpList _ _ _ ({ dst := _, op := .box 48 _, type := _, pos := _, after := _, guard := _ } :: _) _ _); refine wpL_box rfl _ _ rfl _ rfl [.slice none 0 0] rfl ?_; intro w5 HB5 F5 HS5)
    have HA : Hid (Apt W w5 b' T' l b T l w4.heap.size (.slice none 0 0) [] (.slice a4 l.length c4) w3.heap.size w4.heap.size) := hid (by
      have hw : W.heap.size ≤ w4.heap.size := HT4.out.fr.size
      refine ⟨⟨HU4.out.no F5.out, ⟨HB5.out, ⟨rfl, .inl ⟨rfl, rfl⟩⟩, (fun e => by cases e), hw, HT4.out.fr.trans' F5.out⟩, fun e => absurd (HU4.out.at_.lt _ e) (Nat.lt_irrefl _), fun g e => by cases e⟩, HT4.out.no F5.out, HP4.out.fr F5.out (fun _ _ _ e => e), List.Pairwise.nil, F5.out.size, ?_, HPH.out⟩
      intro k hk
      have hlt : k < w4.heap.size := hk.elim (HT4.out.at_.lt k) (fun e => e.2)
      refine ⟨Nat.lt_of_lt_of_le hlt F5.out.size, fun e => ?_, (fun e => by omega), (fun e => by cases e)⟩
      rcases hk with hk | hk
      · exact HD3.out k ⟨e, hk⟩
      · have := HT3.out.at_.lt k e; omega)
    obtain ⟨br, hbr⟩ : ∃ n, w4.heap.size = n := ⟨_, rfl⟩
    obtain ⟨lo, hlo⟩ : ∃ n, w3.heap.size = n := ⟨_, rfl⟩
    rw [hlo] at HA
    rw [hbr] at HA ⊢
    clear hbr hlo HP4 HPH HB5 HS5
    go_wp2_with fail
    go_loopw [13] (fun i wr => ∃ (j : Nat) (Tu : TD) (lu lr : L) (v : Value), j ≤ x1.length ∧ j ≤ 100 ∧ i = .int .i64 (j : Int) ∧ lu.length ≤ l.length + j ∧ lr.length ≤ j ∧ Hid (Apt W wr b' T' l b Tu lu br v lr (.slice a4 l.length c4) lo br)) (fun i _ => 100 - (intOf i).toNat)
    case atStart => exact ⟨0, _, _, _, _, by omega, by omega, rfl, by omega, by simp, HA⟩
    case round =>
      obtain ⟨j, Tu, lu, lr, v, hj, hj2, rfl, hlu, hlr, HA⟩ := hrel
      by_cases hlt : j < x1.length ∧ j < 100
      · obtain ⟨hlt1, hlt2⟩ := hlt
        have hlt1' : (j : Int) < (x1.length : Int) := by omega
        have hlt2' : (j : Int) < 100 := by omega
        obtain ⟨x, hx⟩ : ∃ x, x1[j]? = some x := ⟨_, List.getElem?_eq_getElem hlt1⟩
        obtain ⟨g, o, rfl, -, hr⟩ := H1.out j x hx
        obtain ⟨k0, k1, k2, k3⟩ := cells_ac (HA.out.t.fr.range hr id)
        clear hr hx
        by_cases h5 : x.how < 5
        · go_wp2_with fail
          refine (does_any W wr b br Tu v lu lr x HA.out.two HA.out.s (by have := HLN.out; omega) (by omega)).mono ?_
          rintro e w6 hp
          obtain ⟨q, Tu', v', rfl, ha⟩ := HA.out.step (stp_sorted x HA.out.s) hp
          have HA6 := hid ha
          have e1 := stp_length x lu
          have e2 := stp_length x lr
          clear hp ha k0 k1 k2 k3
          go_wp2_with fail
          exact ⟨⟨j + 1, Tu', stp x lu, stp x lr, v', by omega, by omega, by go_num, by omega, by omega, HA6⟩, by simp [intOf]; omega⟩
        · have h5' : ¬ (x.how < 5) := h5
          go_wp2_with fail
          exact ⟨⟨j + 1, Tu, lu, lr, v, by omega, by omega, by go_num, by omega, by omega, HA⟩, by simp [intOf]; omega⟩
      · have HA' := HA
        clear HA
        have hcase : x1.length ≤ j ∨ (j < x1.length ∧ j = 100) := by omega
        rcases hcase with hge | ⟨hge, h100⟩
        · have hge' : ¬ ((j : Int) < (x1.length : Int)) := by omega
          go_wp2_with fail
          refine (HA'.out.t.all (by have := HLN.out; omega)).mono ?_
          rintro e w7 ⟨pv7, rfl, p7, t7, f7⟩
          have HT7 := hid t7; have F7 := hid f7
          have HP7 := hid p7.pr
          obtain ⟨a7, c7, rfl, -⟩ := p7
          clear t7 f7
          go_wp2_with fail
          refine (same_any w7 _ _ l l (HA'.out.p.pr.no F7.out) HP7.out (by have := HLN.out; omega) (by have := HLN.out; omega)).mono ?_
          rintro e w8 ⟨rfl, f8⟩
          have HF8 := hid (HT7.out.fr.trans' f8)
          have hdec : decide (l = l) = true := by simp
          rw [hdec]
          clear f8 hdec
          go_wp2_with fail
          go_ret
          exact ⟨rfl, HF8.out⟩
        · have hge' : (j : Int) < (x1.length : Int) := by omega
          have h100' : ¬ ((j : Int) < 100) := by omega
          go_wp2_with fail
          refine (HA'.out.t.all (by have := HLN.out; omega)).mono ?_
          rintro e w7 ⟨pv7, rfl, p7, t7, f7⟩
          have HT7 := hid t7; have F7 := hid f7
          have HP7 := hid p7.pr
          obtain ⟨a7, c7, rfl, -⟩ := p7
          clear t7 f7
          go_wp2_with fail
          refine (same_any w7 _ _ l l (HA'.out.p.pr.no F7.out) HP7.out (by have := HLN.out; omega) (by have := HLN.out; omega)).mono ?_
          rintro e w8 ⟨rfl, f8⟩
          have HF8 := hid (HT7.out.fr.trans' f8)
          have hdec : decide (l = l) = true := by simp
          rw [hdec]
          clear f8 hdec
          go_wp2_with fail
          go_ret
          exact ⟨rfl, HF8.out⟩
end Go.Proofs.Ytlnolnaapnijbaa.TR
