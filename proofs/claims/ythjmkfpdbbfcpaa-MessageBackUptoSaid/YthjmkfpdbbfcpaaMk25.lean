/-
  Part 25 of the proof: MeS, MeT, MqK.
-/
import Derived.Test.YthjmkfpdbbfcpaaMk02
import Derived.Test.YthjmkfpdbbfcpaaMk24
import Derived.Test.YthjmkfpdbbfcpaaMk03
set_option linter.unusedSimpArgs false
set_option linter.unusedVariables false
namespace Go.Proofs.Ythjmkfpdbbfcpaa.ME
set_option maxRecDepth 100000
open Go.RowKit K Go.Proofs.Ythjmkfpdbbfcpaa.BE Go.Proofs.Ythjmkfpdbbfcpaa.FR

/-- It says that they are one. -/
def Sames (w : World) (e : Ending) (w' : World) : Prop := e = .returned (.bool true) ∧ Fr No w w'
theorem cell_tx' {w : World} {g o : Nat} {L : List B} (h : w.rangeAt g o (strs L)) {i : Nat} (hi : i < L.length) : w.cell? ⟨g, o + i, none⟩ = some (.string (sb L[i])) := h i _ (by simp [strs, hi])
set_option maxHeartbeats 4000000 in
theorem rTexts_any (E1 E2 : Nat → Prop) (va vb : Value) (L : List B) (w : World) (h1 : Tx E1 w va L) (h2 : Tx E2 w vb L) : Calls Try.prog 17 #[va, vb] w (Sames w) := by
  obtain ⟨⟨a, n, c, rfl, hn, -, hA⟩, hl, -⟩ := h1
  obtain ⟨⟨a', m, c', rfl, hm, -, hA'⟩, -, -⟩ := h2
  obtain rfl : n = m := by rw [← hn, ← hm]
  rw [hn] at hl
  have hli : (n : Int) ≤ 140737488351232 := by omega
  have HNN := hid hn; have HA := hid hA; have HA' := hid hA'
  clear hn hm hA hA' hl
  go_enter Try.func17, Try.ntmps17
  go_wp2_with fail
  go_loopw [5] (fun iv wr => ∃ i : Nat, i ≤ n ∧ iv = .int .i64 i ∧ Hid (Fr No w wr)) (fun iv _ => n - (intOf iv).toNat)
  case atStart => exact ⟨0, Nat.zero_le _, rfl, hid (Fr.refl _ _)⟩
  case round =>
    obtain ⟨i, hi, rfl, HI⟩ := hrel
    by_cases hlt : i < n
    · obtain ⟨g, o, rfl, -, hg, hr⟩ := HA.out.resolve_left (by omega)
      obtain ⟨g', o', rfl, -, hg', hr'⟩ := HA'.out.resolve_left (by omega)
      have hiL : i < L.length := by rw [HNN.out]; exact hlt
      have k1 := cell_tx' (HI.out.range hr id) hiL
      have k2 := cell_tx' (HI.out.range hr' id) hiL
      obtain ⟨x, hx⟩ : ∃ x, L[i] = x := ⟨_, rfl⟩
      rw [hx] at k1 k2
      have hlti : (i : Int) < n := by omega
      have hi0 : (0 : Int) ≤ i := by omega
      clear hr hr' hg hg' hx
      go_wp2_with fail
      have hold : Facts.hold [(3, fun w' => w'.cell? ⟨g, o + i, none⟩ = some (.string (sb x))), (7, fun w' => w'.cell? ⟨g', o' + i, none⟩ = some (.string (sb x)))] wr.drew := Facts.cons_hold k1 (Facts.cons_hold k2 (Facts.nil_hold _))
      refine wp_region_noPanic ?_
      refine wpD_region hold (by kernel_rfl) 9 rfl ?_
      (refine wpD_plain 0 (v := ?_) rfl (by kernel_rfl) (by kernel_rfl) (by kernel_rfl) (fun _ _ _ h => h) (by rfl) ?_ (by assumption) ?_; rotate_left; (intro _w; go_simp; try with_reducible rfl); simp only [Act.put, K.put3])
      (refine wpD_plain 1 (v := ?_) rfl (by kernel_rfl) (by kernel_rfl) (by kernel_rfl) (fun _ _ _ h => h) (by rfl) ?_ (by assumption) ?_; rotate_left; (intro _w; go_simp; try with_reducible rfl); simp only [Act.put, K.put3])
      (refine wpD_plain 2 (v := ?_) rfl (by kernel_rfl) (by kernel_rfl) (by kernel_rfl) (fun _ _ _ h => h) (by rfl) ?_ (by assumption) ?_; rotate_left; (intro _w; go_simp; try with_reducible rfl); simp only [Act.put, K.put3])
      (refine wpD_take 3 _ rfl (by kernel_rfl) (by kernel_rfl) (by kernel_rfl) (fun _ _ _ h => h) List.mem_cons_self (by rfl) (v := ?_) ?_ (by assumption) ?_; rotate_left; (intro _w _hw; go_simp; try with_reducible rfl); simp only [Act.put, K.put3])
      (refine wpD_plain 4 (v := ?_) rfl (by kernel_rfl) (by kernel_rfl) (by kernel_rfl) (fun _ _ _ h => h) (by rfl) ?_ (by assumption) ?_; rotate_left; (intro _w; go_simp; try with_reducible rfl); simp only [Act.put, K.put3])
      (refine wpD_plain 5 (v := ?_) rfl (by kernel_rfl) (by kernel_rfl) (by kernel_rfl) (fun _ _ _ h => h) (by rfl) ?_ (by assumption) ?_; rotate_left; (intro _w; go_simp; try with_reducible rfl); simp only [Act.put, K.put3])
      (refine wpD_plain 6 (v := ?_) rfl (by kernel_rfl) (by kernel_rfl) (by kernel_rfl) (fun _ _ _ h => h) (by rfl) ?_ (by assumption) ?_; rotate_left; (intro _w; go_simp; try with_reducible rfl); simp only [Act.put, K.put3])
      (refine wpD_take 7 _ rfl (by kernel_rfl) (by kernel_rfl) (by kernel_rfl) (fun _ _ _ h => h) (List.mem_cons_of_mem _ List.mem_cons_self) (by rfl) (v := ?_) ?_ (by assumption) ?_; rotate_left; (intro _w _hw; go_simp; try with_reducible rfl); simp only [Act.put, K.put3])
      (refine wpD_plain 8 (v := (.bool false)) rfl (by kernel_rfl) (by kernel_rfl) (by kernel_rfl) (fun _ _ _ h => h) (by rfl) ?_ (by assumption) ?_; (intro _w; exact (exec_neS _ _ _ rfl x x rfl rfl _w).trans (by simp)); simp only [Act.put, K.put3])
      clear hold
      refine wpD_done (by kernel_rfl) (NoPanic.normal ?_) _
      go_wp2_with fail
      go_roundw
      case rel => exact ⟨i + 1, hlt, by go_num, hid HI.out.drew⟩
      case measure => simp [intOf]; omega
    · have hle : (n : Int) ≤ i := by omega
      clear hlt
      go_wp2_with fail
      go_ret
      exact ⟨rfl, HI.out⟩
set_option maxHeartbeats 4000000 in
theorem rSameAttr_any (E1 E2 : Nat → Prop) (x : At) (cs ds : List Value) (w : World) (h1 : AtC E1 w x cs) (h2 : AtC E2 w x ds) : Calls Try.prog 19 #[.agg cs.toArray, .agg ds.toArray] w (Sames w) := by
  obtain ⟨va, rfl, -, ta⟩ := h1
  obtain ⟨vb, rfl, -, tb⟩ := h2
  have TA := hid ta; have TB := hid tb
  obtain ⟨t, ht⟩ : ∃ t, sb x.type = t := ⟨_, rfl⟩
  rw [ht]
  obtain ⟨a, cp, rfl, -, -⟩ := ta.form
  obtain ⟨b, cq, rfl, -, -⟩ := tb.form
  obtain ⟨n, hn⟩ : ∃ n, x.values.length = n := ⟨_, rfl⟩
  rw [hn] at TA TB ⊢
  clear ta tb ht hn
  go_enter Try.func19, Try.ntmps19
  go_wp2_with (first
    | ((with_reducible refine K.atO (.box 54 _) ?_); (fail_if_success (have := HB1)); refine wpL_box rfl _ _ rfl _ rfl [.string t, .slice a n cp] rfl ?_; intro w1 HB1 F1 HS1)
    | ((with_reducible refine K.atO (.box 54 _) ?_); refine wpL_box rfl _ _ rfl _ rfl [.string t, .slice b n cq] rfl ?_; intro w2 HB2 F2 HS2;
        have hb1 := HB1.out.fr F2.out id;
        have c0 : w2.cell? ⟨w.heap.size, 0, none⟩ = some (.string t) := hb1.cell 0;
        have c1 : w2.cell? ⟨w.heap.size, 1, none⟩ = some (.slice a n cp) := hb1.cell 1;
        have d0 : w2.cell? ⟨w1.heap.size, 0, none⟩ = some (.string t) := HB2.out.cell 0;
        have d1 : w2.cell? ⟨w1.heap.size, 1, none⟩ = some (.slice b n cq) := HB2.out.cell 1; clear hb1))
  have HF := hid (F1.out.trans' F2.out)
  refine (rTexts_any E1 E2 _ _ x.values w2 (TA.out.no HF.out) (TB.out.no HF.out)).mono ?_
  rintro e w3 ⟨rfl, f3⟩
  have e0 := f3.cell c0 id
  have e1 := f3.cell d0 id
  have HF3 := hid (HF.out.trans' f3)
  clear c0 c1 d0 d1 f3
  go_wp2_with fail
  go_ret
  exact ⟨rfl, HF3.out⟩
set_option maxHeartbeats 4000000 in
theorem rSameAttrs_any (E1 E2 : Nat → Prop) (va vb : Value) (L : List At) (w : World) (h1 : Sl 2 (AtC E1 w) E1 w va L) (h2 : Sl 2 (AtC E2 w) E2 w vb L) : Calls Try.prog 18 #[va, vb] w (Sames w) := by
  obtain ⟨a, cp, rfl, -, hl⟩ := h1.form
  obtain ⟨b, cq, rfl, -, -⟩ := h2.form
  obtain ⟨n, hn⟩ : ∃ n, L.length = n := ⟨_, rfl⟩
  rw [hn] at hl h1 h2 ⊢
  have HNN := hid hn; have H1 := hid h1; have H2 := hid h2
  have hli : (n : Int) ≤ 140737488351232 := by omega
  clear hn h1 h2 hl
  go_enter Try.func18, Try.ntmps18
  go_wp2_with fail
  go_loopw [5] (fun iv wr => ∃ i : Nat, i ≤ n ∧ iv = .int .i64 i ∧ Hid (Fr No w wr)) (fun iv _ => n - (intOf iv).toNat)
  case atStart => exact ⟨0, Nat.zero_le _, rfl, hid (Fr.refl _ _)⟩
  case round =>
    obtain ⟨i, hi, rfl, HI⟩ := hrel
    by_cases hlt : i < n
    · obtain ⟨x, hx⟩ : ∃ x, L[i]? = some x := ⟨_, List.getElem?_eq_getElem (by rw [HNN.out]; exact hlt)⟩
      obtain ⟨g, o, cap, c, e1, -, -, hr, hc, hxa⟩ := (H1.out.noA HI.out).get hx
      obtain ⟨g', o', cap', d, e2, -, -, hr', hd, hxd⟩ := (H2.out.noA HI.out).get hx
      simp only [Value.slice.injEq] at e1 e2
      obtain ⟨rfl, -, rfl⟩ := e1
      obtain ⟨rfl, -, rfl⟩ := e2
      have HXA := hid hxa; have HXD := hid hxd
      have HI3 := hid (show (Try.prog.info? 54).map (·.size) = some c.length by rw [hc]; exact infoAt)
      have HI4 := hid (show (Try.prog.info? 54).map (·.size) = some d.length by rw [hd]; exact infoAt)
      have hlti : (i : Int) < n := by omega
      have hi0 : (0 : Int) ≤ i := by omega
      clear hx hxa hxd hc hd
      go_wp2_with fail
      have hold : Facts.hold [(3, fun w' => w'.rangeAt g (o + i * 2) c), (7, fun w' => w'.rangeAt g' (o' + i * 2) d)] wr.drew := Facts.cons_hold hr (Facts.cons_hold hr' (Facts.nil_hold _))
      refine wpD_region hold (by kernel_rfl) 10 rfl ?_
      (refine wpD_plain 0 (v := ?_) rfl (by kernel_rfl) (by kernel_rfl) (by kernel_rfl) (fun _ _ _ h => h) (by rfl) ?_ (by assumption) ?_; rotate_left; (intro _w; go_simp; try with_reducible rfl); simp only [Act.put, K.put3])
      (refine wpD_plain 1 (v := ?_) rfl (by kernel_rfl) (by kernel_rfl) (by kernel_rfl) (fun _ _ _ h => h) (by rfl) ?_ (by assumption) ?_; rotate_left; (intro _w; go_simp; try with_reducible rfl); simp only [Act.put, K.put3])
      (refine wpD_plain 2 (v := ?_) rfl (by kernel_rfl) (by kernel_rfl) (by kernel_rfl) (fun _ _ _ h => h) (by rfl) ?_ (by assumption) ?_; rotate_left; (intro _w; go_simp; try with_reducible rfl); simp only [Act.put, K.put3])
      (refine wpD_take 3 _ rfl (by kernel_rfl) (by kernel_rfl) (by kernel_rfl) (fun _ _ _ h => h) List.mem_cons_self (by rfl) (exec_load _ _ rfl g (o + i * 2) rfl _ _ rfl rfl HI3.out) (by assumption) ?_; simp only [Act.put, K.put3])
      (refine wpD_plain 4 (v := ?_) rfl (by kernel_rfl) (by kernel_rfl) (by kernel_rfl) (fun _ _ _ h => h) (by rfl) ?_ (by assumption) ?_; rotate_left; (intro _w; go_simp; try with_reducible rfl); simp only [Act.put, K.put3])
      (refine wpD_plain 5 (v := ?_) rfl (by kernel_rfl) (by kernel_rfl) (by kernel_rfl) (fun _ _ _ h => h) (by rfl) ?_ (by assumption) ?_; rotate_left; (intro _w; go_simp; try with_reducible rfl); simp only [Act.put, K.put3])
      (refine wpD_plain 6 (v := ?_) rfl (by kernel_rfl) (by kernel_rfl) (by kernel_rfl) (fun _ _ _ h => h) (by rfl) ?_ (by assumption) ?_; rotate_left; (intro _w; go_simp; try with_reducible rfl); simp only [Act.put, K.put3])
      (refine wpD_take 7 _ rfl (by kernel_rfl) (by kernel_rfl) (by kernel_rfl) (fun _ _ _ h => h) (List.mem_cons_of_mem _ List.mem_cons_self) (by rfl) (exec_load _ _ rfl g' (o' + i * 2) rfl _ _ rfl rfl HI4.out) (by assumption) ?_; simp only [Act.put, K.put3])
      clear hold
      refine wpD_only 8 [] rfl (by kernel_rfl) (by kernel_rfl) (by rfl) (fun K8 hK8 => ?_)
      refine wp_call (.func 19) _ _ rfl 19 [] rfl (fun vs w => by kernel_rfl) [.agg c.toArray, .agg d.toArray] (by rfl) ?_
      refine (rSameAttr_any E1 E2 x c d wr.drew (HXA.out.no (Fr.refl No wr).drew) (HXD.out.no (Fr.refl No wr).drew)).mono ?_
      rintro e w4 ⟨rfl, f4⟩
      have hf4 : Fr No wr w4 := (Fr.refl No wr).drew.trans' f4
      refine ⟨_, rfl, hK8 _ _ (Facts.nil_hold _) ?_⟩
      have HF4 := hid (HI.out.trans' hf4)
      clear hK8 K8 f4 hf4 hr hr'
      simp only [Act.put, K.put3]
      have hold : Facts.hold [] w4 := Facts.nil_hold _
      (refine wpD_plain 9 (v := ?_) rfl (by kernel_rfl) (by kernel_rfl) (by kernel_rfl) (fun _ _ _ h => h) (by rfl) ?_ (by assumption) ?_; rotate_left; (intro _w; go_simp; try with_reducible rfl); simp only [Act.put, K.put3])
      clear hold
      refine wpD_done (by kernel_rfl) ?_ _
      go_wp2_with fail
      go_roundw
      case rel => exact ⟨i + 1, hlt, by go_num, HF4⟩
      case measure => simp [intOf]; omega
    · have hle : (n : Int) ≤ i := by omega
      clear hlt
      go_wp2_with fail
      go_ret
      exact ⟨rfl, HI.out⟩
set_option maxHeartbeats 16000000 in
theorem rSameFilter_any (E1 E2 : Nat → Prop) : ∀ (M M2 : Nat) (f : Fl) (cs ds : List Value) (w : World), FlC M E1 w f cs → FlC M2 E2 w f ds → Calls Try.prog 16 #[.agg cs.toArray, .agg ds.toArray] w (Sames w) := by
  intro M
  induction M with
  | zero => intro M2 f cs ds w h; exact h.elim
  | succ M ih =>
    intro M2 f cs ds w h1 h2
    cases M2 with
    | zero => exact h2.elim
    | succ M2 =>
      obtain ⟨vk, va, rfl, -, -, -, -, -, ta, sa⟩ := h1
      obtain ⟨vk2, va2, rfl, -, -, -, -, -, tb, sb2⟩ := h2
      have HIH := hid ih
      obtain ⟨a, cp, rfl, -, -⟩ := ta.form
      obtain ⟨a2, cp2, rfl, -, -⟩ := tb.form
      obtain ⟨k, cq, rfl, -, hl⟩ := sa.form
      obtain ⟨k2, cq2, rfl, -, -⟩ := sb2.form
      obtain ⟨n, hn⟩ : ∃ n, f.kids.length = n := ⟨_, rfl⟩
      obtain ⟨na, hna⟩ : ∃ na, f.any.length = na := ⟨_, rfl⟩
      obtain ⟨fk, hfk⟩ : ∃ fk, f.kind = fk := ⟨_, rfl⟩
      obtain ⟨ft, hft⟩ : ∃ ft, sb f.type = ft := ⟨_, rfl⟩
      obtain ⟨fv, hfv⟩ : ∃ fv, sb f.value = fv := ⟨_, rfl⟩
      obtain ⟨ff, hff⟩ : ∃ ff, sb f.first = ff := ⟨_, rfl⟩
      obtain ⟨fl, hfl⟩ : ∃ fl, sb f.last = fl := ⟨_, rfl⟩
      rw [hn] at sa sb2 hl ⊢
      rw [hna] at ta tb ⊢
      rw [hfk, hft, hfv, hff, hfl]
      have HNN := hid hn; have TA := hid ta; have TB := hid tb; have SA := hid sa; have SB := hid sb2
      have hli : (n : Int) ≤ 140737488351232 := by omega
      clear ih ta tb sa sb2 hl hn hna hfk hft hfv hff hfl
      go_enter Try.func16, Try.ntmps16
      go_wp2_with (first
        | ((with_reducible refine K.atO (.box 25 _) ?_); (fail_if_success (have := HB1)); refine wpL_box rfl _ _ rfl _ rfl [.int .i64 fk, .slice k n cq, .string ft, .string fv, .string ff, .slice a na cp, .string fl] rfl ?_; intro w1 HB1 F1 HS1)
        | ((with_reducible refine K.atO (.box 25 _) ?_); refine wpL_box rfl _ _ rfl _ rfl [.int .i64 fk, .slice k2 n cq2, .string ft, .string fv, .string ff, .slice a2 na cp2, .string fl] rfl ?_; intro w2 HB2 F2 HS2;
            have HB1' := hid (HB1.out.fr F2.out id);
            have c5 : w2.cell? ⟨w.heap.size, 5, none⟩ = some (.slice a na cp) := HB1'.out.cell 5;
            have d5 : w2.cell? ⟨w1.heap.size, 5, none⟩ = some (.slice a2 na cp2) := HB2.out.cell 5))
      have HF := hid (F1.out.trans' F2.out)
      refine (rTexts_any E1 E2 _ _ f.any w2 (TA.out.no HF.out) (TB.out.no HF.out)).mono ?_
      rintro e w3 ⟨rfl, f3⟩
      have HB3 := hid (HB1'.out.fr f3 id); have HD3 := hid (HB2.out.fr f3 id)
      have HF3 := hid (HF.out.trans' f3)
      have c0 : w3.cell? ⟨w.heap.size, 0, none⟩ = some (.int .i64 fk) := HB3.out.cell 0
      have c1 : w3.cell? ⟨w.heap.size, 1, none⟩ = some (.slice k n cq) := HB3.out.cell 1
      have c2 : w3.cell? ⟨w.heap.size, 2, none⟩ = some (.string ft) := HB3.out.cell 2
      have c3 : w3.cell? ⟨w.heap.size, 3, none⟩ = some (.string fv) := HB3.out.cell 3
      have c4 : w3.cell? ⟨w.heap.size, 4, none⟩ = some (.string ff) := HB3.out.cell 4
      have c6 : w3.cell? ⟨w.heap.size, 6, none⟩ = some (.string fl) := HB3.out.cell 6
      have d0 : w3.cell? ⟨w1.heap.size, 0, none⟩ = some (.int .i64 fk) := HD3.out.cell 0
      have d1 : w3.cell? ⟨w1.heap.size, 1, none⟩ = some (.slice k2 n cq2) := HD3.out.cell 1
      have d2 : w3.cell? ⟨w1.heap.size, 2, none⟩ = some (.string ft) := HD3.out.cell 2
      have d3 : w3.cell? ⟨w1.heap.size, 3, none⟩ = some (.string fv) := HD3.out.cell 3
      have d4 : w3.cell? ⟨w1.heap.size, 4, none⟩ = some (.string ff) := HD3.out.cell 4
      have d6 : w3.cell? ⟨w1.heap.size, 6, none⟩ = some (.string fl) := HD3.out.cell 6
      clear f3 c5 d5
      go_wp2_with fail
      clear c0 c2 c3 c4 c6 d0 d2 d3 d4 d6
      go_loopw [6] (fun iv wr => ∃ i : Nat, i ≤ n ∧ iv = .int .i64 i ∧ Hid (Fr No w3 wr)) (fun iv _ => n - (intOf iv).toNat)
      case atStart => exact ⟨0, Nat.zero_le _, rfl, hid (Fr.refl _ _)⟩
      case round =>
        obtain ⟨i, hi, rfl, HI⟩ := hrel
        have e1 : wr.cell? ⟨w.heap.size, 1, none⟩ = some (.slice k n cq) := HI.out.cell c1 id
        have f1 : wr.cell? ⟨w1.heap.size, 1, none⟩ = some (.slice k2 n cq2) := HI.out.cell d1 id
        by_cases hlt : i < n
        · obtain ⟨x, hx⟩ : ∃ x, f.kids[i]? = some x := ⟨_, List.getElem?_eq_getElem (by rw [HNN.out]; exact hlt)⟩
          obtain ⟨g, o, cap, c, q1, -, -, hr, hc, hxa⟩ := (SA.out.noF (HF3.out.trans' HI.out)).get hx
          obtain ⟨g', o', cap', d, q2, -, -, hr', hd, hxd⟩ := (SB.out.noF (HF3.out.trans' HI.out)).get hx
          simp only [Value.slice.injEq] at q1 q2
          obtain ⟨rfl, -, rfl⟩ := q1
          obtain ⟨rfl, -, rfl⟩ := q2
          have HXA := hid hxa; have HXD := hid hxd
          have HI3 := hid (show (Try.prog.info? 25).map (·.size) = some c.length by rw [hc]; exact infoFl)
          have HI4 := hid (show (Try.prog.info? 25).map (·.size) = some d.length by rw [hd]; exact infoFl)
          have hlti : (i : Int) < n := by omega
          have hi0 : (0 : Int) ≤ i := by omega
          clear hx hxa hxd hc hd c1 d1
          go_wp2_with fail
          have hold : Facts.hold [(1, fun w' => w'.cell? ⟨w.heap.size, 1, none⟩ = some (.slice (some ⟨g, o, none⟩) n cq)), (6, fun w' => w'.cell? ⟨w1.heap.size, 1, none⟩ = some (.slice (some ⟨g', o', none⟩) n cq2)), (4, fun w' => w'.rangeAt g (o + i * 7) c), (9, fun w' => w'.rangeAt g' (o' + i * 7) d)] wr.drew := Facts.cons_hold e1 (Facts.cons_hold f1 (Facts.cons_hold hr (Facts.cons_hold hr' (Facts.nil_hold _))))
          refine wpD_region hold (by kernel_rfl) 12 rfl ?_
          (refine wpD_plain 0 (v := ?_) rfl (by kernel_rfl) (by kernel_rfl) (by kernel_rfl) (fun _ _ _ h => h) (by rfl) ?_ (by assumption) ?_; rotate_left; (intro _w; go_simp; try with_reducible rfl); simp only [Act.put, K.put3])
          (refine wpD_take 1 _ rfl (by kernel_rfl) (by kernel_rfl) (by kernel_rfl) (fun _ _ _ h => h) List.mem_cons_self (by rfl) (v := ?_) ?_ (by assumption) ?_; rotate_left; (intro _w _hw; go_simp; try with_reducible rfl); simp only [Act.put, K.put3])
          (refine wpD_plain 2 (v := ?_) rfl (by kernel_rfl) (by kernel_rfl) (by kernel_rfl) (fun _ _ _ h => h) (by rfl) ?_ (by assumption) ?_; rotate_left; (intro _w; go_simp; try with_reducible rfl); simp only [Act.put, K.put3])
          (refine wpD_plain 3 (v := ?_) rfl (by kernel_rfl) (by kernel_rfl) (by kernel_rfl) (fun _ _ _ h => h) (by rfl) ?_ (by assumption) ?_; rotate_left; (intro _w; go_simp; try with_reducible rfl); simp only [Act.put, K.put3])
          (refine wpD_take 4 _ rfl (by kernel_rfl) (by kernel_rfl) (by kernel_rfl) (fun _ _ _ h => h) (List.mem_cons_of_mem _ (List.mem_cons_of_mem _ List.mem_cons_self)) (by rfl) (exec_load _ _ rfl g (o + i * 7) rfl _ _ rfl rfl HI3.out) (by assumption) ?_; simp only [Act.put, K.put3])
          (refine wpD_plain 5 (v := ?_) rfl (by kernel_rfl) (by kernel_rfl) (by kernel_rfl) (fun _ _ _ h => h) (by rfl) ?_ (by assumption) ?_; rotate_left; (intro _w; go_simp; try with_reducible rfl); simp only [Act.put, K.put3])
          (refine wpD_take 6 _ rfl (by kernel_rfl) (by kernel_rfl) (by kernel_rfl) (fun _ _ _ h => h) (List.mem_cons_of_mem _ List.mem_cons_self) (by rfl) (v := ?_) ?_ (by assumption) ?_; rotate_left; (intro _w _hw; go_simp; try with_reducible rfl); simp only [Act.put, K.put3])
          (refine wpD_plain 7 (v := ?_) rfl (by kernel_rfl) (by kernel_rfl) (by kernel_rfl) (fun _ _ _ h => h) (by rfl) ?_ (by assumption) ?_; rotate_left; (intro _w; go_simp; try with_reducible rfl); simp only [Act.put, K.put3])
          (refine wpD_plain 8 (v := ?_) rfl (by kernel_rfl) (by kernel_rfl) (by kernel_rfl) (fun _ _ _ h => h) (by rfl) ?_ (by assumption) ?_; rotate_left; (intro _w; go_simp; try with_reducible rfl); simp only [Act.put, K.put3])
          (refine wpD_take 9 _ rfl (by kernel_rfl) (by kernel_rfl) (by kernel_rfl) (fun _ _ _ h => h) (List.mem_cons_of_mem _ (List.mem_cons_of_mem _ (List.mem_cons_of_mem _ List.mem_cons_self))) (by rfl) (exec_load _ _ rfl g' (o' + i * 7) rfl _ _ rfl rfl HI4.out) (by assumption) ?_; simp only [Act.put, K.put3])
          clear hold
          refine wpD_only 10 [(1, fun w' => w'.cell? ⟨w.heap.size, 1, none⟩ = some (.slice (some ⟨g, o, none⟩) n cq)), (6, fun w' => w'.cell? ⟨w1.heap.size, 1, none⟩ = some (.slice (some ⟨g', o', none⟩) n cq2))] rfl (by kernel_rfl) (by kernel_rfl) (by rfl) (fun K10 hK10 => ?_)
          refine wp_call (.func 16) _ _ rfl 16 [] rfl (fun vs w => by kernel_rfl) [.agg c.toArray, .agg d.toArray] (by rfl) ?_
          refine (HIH.out M2 x c d wr.drew (HXA.out.no (Fr.refl No wr).drew) (HXD.out.no (Fr.refl No wr).drew)).mono ?_
          rintro e w4 ⟨rfl, f4⟩
          have hf4 : Fr No wr w4 := (Fr.refl No wr).drew.trans' f4
          have hold : Facts.hold [(1, fun w' => w'.cell? ⟨w.heap.size, 1, none⟩ = some (.slice (some ⟨g, o, none⟩) n cq)), (6, fun w' => w'.cell? ⟨w1.heap.size, 1, none⟩ = some (.slice (some ⟨g', o', none⟩) n cq2))] w4 := Facts.cons_hold (hf4.cell e1 id) (Facts.cons_hold (hf4.cell f1 id) (Facts.nil_hold _))
          refine ⟨_, rfl, hK10 _ _ hold ?_⟩
          have HF4 := hid (HI.out.trans' hf4)
          clear hK10 K10 f4 hf4 e1 f1 hr hr'
          simp only [Act.put, K.put3]
          (refine wpD_plain 11 (v := ?_) rfl (by kernel_rfl) (by kernel_rfl) (by kernel_rfl) (fun _ _ _ h => h) (by rfl) ?_ (by assumption) ?_; rotate_left; (intro _w; go_simp; try with_reducible rfl); simp only [Act.put, K.put3])
          clear hold
          refine wpD_done (by kernel_rfl) ?_ _
          go_wp2_with fail
          go_roundw
          case rel => exact ⟨i + 1, hlt, by go_num, HF4⟩
          case measure => simp [intOf]; omega
        · have hle : (n : Int) ≤ i := by omega
          clear hlt
          go_wp2_with fail
          go_ret
          exact ⟨rfl, HF3.out.trans' HI.out⟩
end Go.Proofs.Ythjmkfpdbbfcpaa.ME

namespace Go.Proofs.Ythjmkfpdbbfcpaa.ME
set_option maxRecDepth 100000
open Go.RowKit K Go.Proofs.Ythjmkfpdbbfcpaa.BE Go.Proofs.Ythjmkfpdbbfcpaa.FR

set_option maxHeartbeats 32000000 in
theorem rSame_any (E1 E2 : Nat → Prop) (M M2 : Nat) (m : Msg) (vk va vw vl vm uk ua uw ul um : Value) (w : World) (h1 : MsgC M E1 w m vk va vw vl vm) (h2 : MsgC M2 E2 w m uk ua uw ul um) :
    Calls Try.prog 10 #[.agg (mcs m vk va vw vl vm).toArray, .agg (mcs m uk ua uw ul um).toArray] w (Sames w) := by
  have H1 := hid h1; have H2 := hid h2
  obtain ⟨M, rfl⟩ : ∃ k, M = k + 1 := by cases M with | zero => exact h1.filter.elim | succ k => exact ⟨k, rfl⟩
  obtain ⟨M2, rfl⟩ : ∃ k, M2 = k + 1 := by cases M2 with | zero => exact h2.filter.elim | succ k => exact ⟨k, rfl⟩
  have q1 := h1.filter; have q2 := h2.filter
  obtain ⟨vk', va', e1, -, -, -, -, -, t1, s1⟩ := q1
  obtain ⟨uk', ua', e2, -, -, -, -, -, t2, s2⟩ := q2
  simp only [List.cons.injEq, and_true, true_and] at e1 e2
  obtain ⟨rfl, rfl⟩ := e1
  obtain ⟨rfl, rfl⟩ := e2
  obtain ⟨k1, ck1, rfl, -, -⟩ := s1.form
  obtain ⟨k2, ck2, rfl, -, -⟩ := s2.form
  obtain ⟨a1, ca1, rfl, -, -⟩ := t1.form
  obtain ⟨a2, ca2, rfl, -, -⟩ := t2.form
  obtain ⟨v1, cv1, rfl, -, -⟩ := h1.wants.form
  obtain ⟨v2, cv2, rfl, -, -⟩ := h2.wants.form
  obtain ⟨l1, cl1, rfl, -, -⟩ := h1.list.form
  obtain ⟨l2, cl2, rfl, -, -⟩ := h2.list.form
  obtain ⟨q1, cq1, rfl, -, hml⟩ := h1.mods.form
  obtain ⟨q2, cq2, rfl, -, -⟩ := h2.mods.form
  have HL := hid h1.list; have KL := hid h2.list; have HM := hid h1.mods; have KM := hid h2.mods; have HW := hid h1.wants; have KW := hid h2.wants; have HF := hid h1.filter; have KF := hid h2.filter
  clear t1 t2 s1 s2 h1 h2 H1 H2
  obtain ⟨idn, op, ver, name, pwB, scope, deref, size, time, tyo, filter, wants, list, mods, rdnB, dr, mv, supB, tyB, valB, tg, cd, mtB, txB⟩ := m
  simp only at HL KL HM KM HW KW HF KF hml ⊢
  unfold mcs
  simp only
  obtain ⟨nk, hnk⟩ : ∃ x, filter.kids.length = x := ⟨_, rfl⟩
  obtain ⟨na, hna⟩ : ∃ x, filter.any.length = x := ⟨_, rfl⟩
  obtain ⟨nw, hnw⟩ : ∃ x, wants.length = x := ⟨_, rfl⟩
  obtain ⟨nl, hnl⟩ : ∃ x, list.length = x := ⟨_, rfl⟩
  obtain ⟨nm_, hnm⟩ : ∃ x, mods.length = x := ⟨_, rfl⟩
  obtain ⟨fk, hfk⟩ : ∃ x, filter.kind = x := ⟨_, rfl⟩
  obtain ⟨ft, hft⟩ : ∃ x, sb filter.type = x := ⟨_, rfl⟩
  obtain ⟨fv, hfv⟩ : ∃ x, sb filter.value = x := ⟨_, rfl⟩
  obtain ⟨ff, hff⟩ : ∃ x, sb filter.first = x := ⟨_, rfl⟩
  obtain ⟨fl, hfl⟩ : ∃ x, sb filter.last = x := ⟨_, rfl⟩
  rw [hnk, hna, hfk, hft, hfv, hff, hfl] at HF KF ⊢
  rw [hnw] at HW KW ⊢
  rw [hnl] at HL KL ⊢
  rw [hnm] at HM KM hml ⊢
  have HNM := hid hnm
  have hmli : (nm_ : Int) ≤ 140737488351232 := by omega
  clear hnk hna hnw hnl hnm hfk hft hfv hff hfl hml
  generalize sb name = nm
  generalize sb pwB = pw
  generalize sb rdnB = rdn
  generalize sb supB = sup
  generalize sb tyB = ty
  generalize sb valB = val
  generalize sb mtB = mt
  generalize sb txB = tx
  go_enter Try.func10, Try.ntmps10
  go_wp2_with (first
    | ((with_reducible refine K.atO (.box 29 _) ?_); (fail_if_success (have := HB1)); refine wpL_box rfl _ _ rfl _ rfl [.int .i64 idn, .int .i64 op, .int .i64 ver, .string nm, .string pw, .int .i64 scope, .int .i64 deref, .int .i64 size, .int .i64 time, .bool tyo, .int .i64 fk, .slice k1 nk ck1, .string ft, .string fv, .string ff, .slice a1 na ca1, .string fl, .slice v1 nw cv1, .slice l1 nl cl1, .slice q1 nm_ cq1, .string rdn, .bool dr, .bool mv, .string sup, .string ty, .string val, .int .i64 tg, .int .i64 cd, .string mt, .string tx] rfl ?_; intro w1 HB1 F1 HS1)
    | ((with_reducible refine K.atO (.box 29 _) ?_); refine wpL_box rfl _ _ rfl _ rfl [.int .i64 idn, .int .i64 op, .int .i64 ver, .string nm, .string pw, .int .i64 scope, .int .i64 deref, .int .i64 size, .int .i64 time, .bool tyo, .int .i64 fk, .slice k2 nk ck2, .string ft, .string fv, .string ff, .slice a2 na ca2, .string fl, .slice v2 nw cv2, .slice l2 nl cl2, .slice q2 nm_ cq2, .string rdn, .bool dr, .bool mv, .string sup, .string ty, .string val, .int .i64 tg, .int .i64 cd, .string mt, .string tx] rfl ?_; intro w2 HB2 F2 HS2; refine Hid.out ?_)
    | fail)
  have HB1' := hid (HB1.out.fr F2.out id)
  have HFR := hid (F1.out.trans' F2.out)
  obtain ⟨b1, hb1⟩ : ∃ x, w.heap.size = x := ⟨_, rfl⟩
  obtain ⟨b2, hb2⟩ : ∃ x, w1.heap.size = x := ⟨_, rfl⟩
  rw [hb1] at HB1' ⊢
  rw [hb2] at HB2 ⊢
  clear HB1 hb1 hb2 HS1 HS2 F1 F2
  have c0 : w2.cell? ⟨b1, 0, none⟩ = some (.int .i64 idn) := HB1'.out.cell 0
  have c1 : w2.cell? ⟨b1, 1, none⟩ = some (.int .i64 op) := HB1'.out.cell 1
  have c2 : w2.cell? ⟨b1, 2, none⟩ = some (.int .i64 ver) := HB1'.out.cell 2
  have c3 : w2.cell? ⟨b1, 3, none⟩ = some (.string nm) := HB1'.out.cell 3
  have c4 : w2.cell? ⟨b1, 4, none⟩ = some (.string pw) := HB1'.out.cell 4
  have c5 : w2.cell? ⟨b1, 5, none⟩ = some (.int .i64 scope) := HB1'.out.cell 5
  have c6 : w2.cell? ⟨b1, 6, none⟩ = some (.int .i64 deref) := HB1'.out.cell 6
  have c7 : w2.cell? ⟨b1, 7, none⟩ = some (.int .i64 size) := HB1'.out.cell 7
  have c8 : w2.cell? ⟨b1, 8, none⟩ = some (.int .i64 time) := HB1'.out.cell 8
  have c9 : w2.cell? ⟨b1, 9, none⟩ = some (.bool tyo) := HB1'.out.cell 9
  have c19 : w2.cell? ⟨b1, 19, none⟩ = some (.slice q1 nm_ cq1) := HB1'.out.cell 19
  have c20 : w2.cell? ⟨b1, 20, none⟩ = some (.string rdn) := HB1'.out.cell 20
  have c21 : w2.cell? ⟨b1, 21, none⟩ = some (.bool dr) := HB1'.out.cell 21
  have c22 : w2.cell? ⟨b1, 22, none⟩ = some (.bool mv) := HB1'.out.cell 22
  have c23 : w2.cell? ⟨b1, 23, none⟩ = some (.string sup) := HB1'.out.cell 23
  have c24 : w2.cell? ⟨b1, 24, none⟩ = some (.string ty) := HB1'.out.cell 24
  have c25 : w2.cell? ⟨b1, 25, none⟩ = some (.string val) := HB1'.out.cell 25
  have c26 : w2.cell? ⟨b1, 26, none⟩ = some (.int .i64 tg) := HB1'.out.cell 26
  have c27 : w2.cell? ⟨b1, 27, none⟩ = some (.int .i64 cd) := HB1'.out.cell 27
  have c28 : w2.cell? ⟨b1, 28, none⟩ = some (.string mt) := HB1'.out.cell 28
  have c29 : w2.cell? ⟨b1, 29, none⟩ = some (.string tx) := HB1'.out.cell 29
  have d0 : w2.cell? ⟨b2, 0, none⟩ = some (.int .i64 idn) := HB2.out.cell 0
  have d1 : w2.cell? ⟨b2, 1, none⟩ = some (.int .i64 op) := HB2.out.cell 1
  have d2 : w2.cell? ⟨b2, 2, none⟩ = some (.int .i64 ver) := HB2.out.cell 2
  have d3 : w2.cell? ⟨b2, 3, none⟩ = some (.string nm) := HB2.out.cell 3
  have d4 : w2.cell? ⟨b2, 4, none⟩ = some (.string pw) := HB2.out.cell 4
  have d5 : w2.cell? ⟨b2, 5, none⟩ = some (.int .i64 scope) := HB2.out.cell 5
  have d6 : w2.cell? ⟨b2, 6, none⟩ = some (.int .i64 deref) := HB2.out.cell 6
  have d7 : w2.cell? ⟨b2, 7, none⟩ = some (.int .i64 size) := HB2.out.cell 7
  have d8 : w2.cell? ⟨b2, 8, none⟩ = some (.int .i64 time) := HB2.out.cell 8
  have d9 : w2.cell? ⟨b2, 9, none⟩ = some (.bool tyo) := HB2.out.cell 9
  have d19 : w2.cell? ⟨b2, 19, none⟩ = some (.slice q2 nm_ cq2) := HB2.out.cell 19
  have d20 : w2.cell? ⟨b2, 20, none⟩ = some (.string rdn) := HB2.out.cell 20
  have d21 : w2.cell? ⟨b2, 21, none⟩ = some (.bool dr) := HB2.out.cell 21
  have d22 : w2.cell? ⟨b2, 22, none⟩ = some (.bool mv) := HB2.out.cell 22
  have d23 : w2.cell? ⟨b2, 23, none⟩ = some (.string sup) := HB2.out.cell 23
  have d24 : w2.cell? ⟨b2, 24, none⟩ = some (.string ty) := HB2.out.cell 24
  have d25 : w2.cell? ⟨b2, 25, none⟩ = some (.string val) := HB2.out.cell 25
  have d26 : w2.cell? ⟨b2, 26, none⟩ = some (.int .i64 tg) := HB2.out.cell 26
  have d27 : w2.cell? ⟨b2, 27, none⟩ = some (.int .i64 cd) := HB2.out.cell 27
  have d28 : w2.cell? ⟨b2, 28, none⟩ = some (.string mt) := HB2.out.cell 28
  have d29 : w2.cell? ⟨b2, 29, none⟩ = some (.string tx) := HB2.out.cell 29
  refine hid ?_
  go_wp2_with (first
    | ((with_reducible refine K.atO (.load 25 _) ?_); refine wpL_load rfl _ _ rfl b1 10 rfl [.int .i64 fk, .slice k1 nk ck1, .string ft, .string fv, .string ff, .slice a1 na ca1, .string fl] _ (HB1'.out.range 10 _ rfl) rfl rfl infoFl ?_)
    | ((with_reducible refine K.atO (.load 25 _) ?_); refine wpL_load rfl _ _ rfl b2 10 rfl [.int .i64 fk, .slice k2 nk ck2, .string ft, .string fv, .string ff, .slice a2 na ca2, .string fl] _ (HB2.out.range 10 _ rfl) rfl rfl infoFl ?_)
    | fail)
  refine (rSameFilter_any E1 E2 _ _ filter [.int .i64 fk, .slice k1 nk ck1, .string ft, .string fv, .string ff, .slice a1 na ca1, .string fl] [.int .i64 fk, .slice k2 nk ck2, .string ft, .string fv, .string ff, .slice a2 na ca2, .string fl] w2 (HF.out.no HFR.out) (KF.out.no HFR.out)).mono ?_
  rintro e w3 ⟨rfl, f3⟩
  have HB3 := hid (HB1'.out.fr f3 id); have HD3 := hid (HB2.out.fr f3 id); have HF3 := hid (HFR.out.trans' f3)
  clear f3 c0 d0 c1 d1 c2 d2 c3 d3 c4 d4 c5 d5 c6 d6 c7 d7 c8 d8 c9 d9 c19 d19 c20 d20 c21 d21 c22 d22 c23 d23 c24 d24 c25 d25 c26 d26 c27 d27 c28 d28 c29 d29 HB1' HB2
  have c17 : w3.cell? ⟨b1, 17, none⟩ = some (.slice v1 nw cv1) := HB3.out.cell 17
  have d17 : w3.cell? ⟨b2, 17, none⟩ = some (.slice v2 nw cv2) := HD3.out.cell 17
  go_wp2_with fail
  refine (rTexts_any E1 E2 _ _ wants w3 (HW.out.no HF3.out) (KW.out.no HF3.out)).mono ?_
  rintro e w4 ⟨rfl, f4⟩
  have HB4 := hid (HB3.out.fr f4 id); have HD4 := hid (HD3.out.fr f4 id); have HF4 := hid (HF3.out.trans' f4)
  clear f4 c17 d17 HB3 HD3
  have c18 : w4.cell? ⟨b1, 18, none⟩ = some (.slice l1 nl cl1) := HB4.out.cell 18
  have d18 : w4.cell? ⟨b2, 18, none⟩ = some (.slice l2 nl cl2) := HD4.out.cell 18
  go_wp2_with fail
  refine (rSameAttrs_any E1 E2 _ _ list w4 (HL.out.noA HF4.out) (KL.out.noA HF4.out)).mono ?_
  rintro e w5 ⟨rfl, f5⟩
  have HB5 := hid (HB4.out.fr f5 id); have HD5 := hid (HD4.out.fr f5 id); have HF5 := hid (HF4.out.trans' f5)
  clear f5 c18 d18 HB4 HD4
  have c19 : w5.cell? ⟨b1, 19, none⟩ = some (.slice q1 nm_ cq1) := HB5.out.cell 19
  have d19 : w5.cell? ⟨b2, 19, none⟩ = some (.slice q2 nm_ cq2) := HD5.out.cell 19
  go_wp2_with fail
  go_loopw [8] (fun iv wr => ∃ i : Nat, i ≤ nm_ ∧ iv = .int .i64 i ∧ Hid (Fr No w5 wr)) (fun iv _ => nm_ - (intOf iv).toNat)
  case atStart => exact ⟨0, Nat.zero_le _, rfl, hid (Fr.refl _ _)⟩
  case round =>
    obtain ⟨i, hi, rfl, HI⟩ := hrel
    have x1 : wr.cell? ⟨b1, 19, none⟩ = some (.slice q1 nm_ cq1) := HI.out.cell c19 id
    have y1 : wr.cell? ⟨b2, 19, none⟩ = some (.slice q2 nm_ cq2) := HI.out.cell d19 id
    by_cases hlt : i < nm_
    · obtain ⟨x, hx⟩ : ∃ x, mods[i]? = some x := ⟨_, List.getElem?_eq_getElem (by rw [HNM.out]; exact hlt)⟩
      obtain ⟨g, o, cap, c, e1, -, -, hr, hc, hxa⟩ := (HM.out.noM (HF5.out.trans' HI.out)).get hx
      obtain ⟨g', o', cap', d, e2, -, -, hr', hd, hxd⟩ := (KM.out.noM (HF5.out.trans' HI.out)).get hx
      simp only [Value.slice.injEq] at e1 e2
      obtain ⟨rfl, -, rfl⟩ := e1
      obtain ⟨rfl, -, rfl⟩ := e2
      obtain ⟨z, rfl, -, hsz, tz⟩ := hxa
      have HSZ := hid hsz
      clear hsz
      obtain ⟨z2, rfl, -, -, tz2⟩ := hxd
      have TZ := hid tz; have TZ2 := hid tz2
      obtain ⟨dn, hdn⟩ : ∃ dn, x.doing = dn := ⟨_, rfl⟩
      rw [hdn] at hr hr'
      have HXT := hid (show x.attr.type.length = x.attr.type.length from rfl)
      have r1 : wr.rangeAt g (o + i * 3 + 1) [.string (sb x.attr.type), z] := fun j u hj => by have := hr (j + 1) u (by simpa using hj); rwa [show o + i * 3 + (j + 1) = o + i * 3 + 1 + j by omega] at this
      have r2 : wr.rangeAt g' (o' + i * 3 + 1) [.string (sb x.attr.type), z2] := fun j u hj => by have := hr' (j + 1) u (by simpa using hj); rwa [show o' + i * 3 + (j + 1) = o' + i * 3 + 1 + j by omega] at this
      have n1 : wr.cell? ⟨g, o + i * 3, none⟩ = some (.int .i64 dn) := hr 0 _ rfl
      have n2 : wr.cell? ⟨g', o' + i * 3, none⟩ = some (.int .i64 dn) := hr' 0 _ rfl
      have hlti : (i : Int) < nm_ := by omega
      have hi0 : (0 : Int) ≤ i := by omega
      clear hx tz tz2 hc hd hdn hr hr' c19 d19 HXT
      go_wp2_with fail
      have HI3 := hid (show (Try.prog.info? 54).map (·.size) = some [Value.string (sb x.attr.type), z].length from infoAt)
      have HI4 := hid (show (Try.prog.info? 54).map (·.size) = some [Value.string (sb x.attr.type), z2].length from infoAt)
      have hold : Facts.hold [(1, fun w' => w'.cell? ⟨b1, 19, none⟩ = some (.slice (some ⟨g, o, none⟩) nm_ cq1)), (7, fun w' => w'.cell? ⟨b2, 19, none⟩ = some (.slice (some ⟨g', o', none⟩) nm_ cq2)), (5, fun w' => w'.rangeAt g (o + i * 3 + 1) [.string (sb x.attr.type), z]), (11, fun w' => w'.rangeAt g' (o' + i * 3 + 1) [.string (sb x.attr.type), z2])] wr.drew := Facts.cons_hold x1 (Facts.cons_hold y1 (Facts.cons_hold r1 (Facts.cons_hold r2 (Facts.nil_hold _))))
      refine wp_region_noPanic ?_
      refine wpD_region hold (by kernel_rfl) 14 rfl ?_
      (refine wpD_plain 0 (v := ?_) rfl (by kernel_rfl) (by kernel_rfl) (by kernel_rfl) (fun _ _ _ h => h) (by rfl) ?_ (by assumption) ?_; rotate_left; (intro _w; go_simp; try with_reducible rfl); simp only [Act.put, K.put3])
      (refine wpD_take 1 _ rfl (by kernel_rfl) (by kernel_rfl) (by kernel_rfl) (fun _ _ _ h => h) List.mem_cons_self (by rfl) (v := ?_) ?_ (by assumption) ?_; rotate_left; (intro _w _hw; go_simp; try with_reducible rfl); simp only [Act.put, K.put3])
      (refine wpD_plain 2 (v := ?_) rfl (by kernel_rfl) (by kernel_rfl) (by kernel_rfl) (fun _ _ _ h => h) (by rfl) ?_ (by assumption) ?_; rotate_left; (intro _w; go_simp; try with_reducible rfl); simp only [Act.put, K.put3])
      (refine wpD_plain 3 (v := ?_) rfl (by kernel_rfl) (by kernel_rfl) (by kernel_rfl) (fun _ _ _ h => h) (by rfl) ?_ (by assumption) ?_; rotate_left; (intro _w; go_simp; try with_reducible rfl); simp only [Act.put, K.put3])
      (refine wpD_plain 4 (v := ?_) rfl (by kernel_rfl) (by kernel_rfl) (by kernel_rfl) (fun _ _ _ h => h) (by rfl) ?_ (by assumption) ?_; rotate_left; (intro _w; go_simp; try with_reducible rfl); simp only [Act.put, K.put3])
      (refine wpD_take 5 _ rfl (by kernel_rfl) (by kernel_rfl) (by kernel_rfl) (fun _ _ _ h => h) (List.mem_cons_of_mem _ (List.mem_cons_of_mem _ List.mem_cons_self)) (by rfl) (exec_load _ _ rfl g (o + i * 3 + 1) rfl _ _ rfl rfl HI3.out) (by assumption) ?_; simp only [Act.put, K.put3])
      (refine wpD_plain 6 (v := ?_) rfl (by kernel_rfl) (by kernel_rfl) (by kernel_rfl) (fun _ _ _ h => h) (by rfl) ?_ (by assumption) ?_; rotate_left; (intro _w; go_simp; try with_reducible rfl); simp only [Act.put, K.put3])
      (refine wpD_take 7 _ rfl (by kernel_rfl) (by kernel_rfl) (by kernel_rfl) (fun _ _ _ h => h) (List.mem_cons_of_mem _ List.mem_cons_self) (by rfl) (v := ?_) ?_ (by assumption) ?_; rotate_left; (intro _w _hw; go_simp; try with_reducible rfl); simp only [Act.put, K.put3])
      (refine wpD_plain 8 (v := ?_) rfl (by kernel_rfl) (by kernel_rfl) (by kernel_rfl) (fun _ _ _ h => h) (by rfl) ?_ (by assumption) ?_; rotate_left; (intro _w; go_simp; try with_reducible rfl); simp only [Act.put, K.put3])
      (refine wpD_plain 9 (v := ?_) rfl (by kernel_rfl) (by kernel_rfl) (by kernel_rfl) (fun _ _ _ h => h) (by rfl) ?_ (by assumption) ?_; rotate_left; (intro _w; go_simp; try with_reducible rfl); simp only [Act.put, K.put3])
      (refine wpD_plain 10 (v := ?_) rfl (by kernel_rfl) (by kernel_rfl) (by kernel_rfl) (fun _ _ _ h => h) (by rfl) ?_ (by assumption) ?_; rotate_left; (intro _w; go_simp; try with_reducible rfl); simp only [Act.put, K.put3])
      (refine wpD_take 11 _ rfl (by kernel_rfl) (by kernel_rfl) (by kernel_rfl) (fun _ _ _ h => h) (List.mem_cons_of_mem _ (List.mem_cons_of_mem _ (List.mem_cons_of_mem _ List.mem_cons_self))) (by rfl) (exec_load _ _ rfl g' (o' + i * 3 + 1) rfl _ _ rfl rfl HI4.out) (by assumption) ?_; simp only [Act.put, K.put3])
      clear hold
      refine wpD_only 12 [(1, fun w' => w'.cell? ⟨b1, 19, none⟩ = some (.slice (some ⟨g, o, none⟩) nm_ cq1)), (7, fun w' => w'.cell? ⟨b2, 19, none⟩ = some (.slice (some ⟨g', o', none⟩) nm_ cq2))] rfl (by kernel_rfl) (by kernel_rfl) (by rfl) (fun K12 hK12 => ?_)
      refine wp_call (.func 19) _ _ rfl 19 [] rfl (fun vs w => by kernel_rfl) [.agg #[.string (sb x.attr.type), z], .agg #[.string (sb x.attr.type), z2]] (by rfl) ?_
      refine (rSameAttr_any E1 E2 x.attr [.string (sb x.attr.type), z] [.string (sb x.attr.type), z2] wr.drew ⟨z, rfl, HSZ.out, TZ.out.no (Fr.refl No wr).drew⟩ ⟨z2, rfl, HSZ.out, TZ2.out.no (Fr.refl No wr).drew⟩).mono ?_
      rintro e w6 ⟨rfl, f6⟩
      have hf6 : Fr No wr w6 := (Fr.refl No wr).drew.trans' f6
      have hold : Facts.hold [(1, fun w' => w'.cell? ⟨b1, 19, none⟩ = some (.slice (some ⟨g, o, none⟩) nm_ cq1)), (7, fun w' => w'.cell? ⟨b2, 19, none⟩ = some (.slice (some ⟨g', o', none⟩) nm_ cq2))] w6 := Facts.cons_hold (hf6.cell x1 id) (Facts.cons_hold (hf6.cell y1 id) (Facts.nil_hold _))
      refine ⟨_, rfl, hK12 _ _ hold ?_⟩
      have HF6 := hid (HI.out.trans' hf6)
      have p1 := hf6.cell x1 id
      have p2 := hf6.cell y1 id
      have p3 := hf6.cell n1 id
      have p4 := hf6.cell n2 id
      clear hK12 K12 f6 hf6 x1 y1 r1 r2 n1 n2
      simp only [Act.put, K.put3]
      (refine wpD_plain 13 (v := ?_) rfl (by kernel_rfl) (by kernel_rfl) (by kernel_rfl) (fun _ _ _ h => h) (by rfl) ?_ (by assumption) ?_; rotate_left; (intro _w; go_simp; try with_reducible rfl); simp only [Act.put, K.put3])
      clear hold
      refine wpD_done (by kernel_rfl) (NoPanic.normal ?_) _
      go_wp2_with fail
      have hold : Facts.hold [(4, fun w' => w'.cell? ⟨b1, 19, none⟩ = some (.slice (some ⟨g, o, none⟩) nm_ cq1)), (10, fun w' => w'.cell? ⟨b2, 19, none⟩ = some (.slice (some ⟨g', o', none⟩) nm_ cq2)), (8, fun w' => w'.cell? ⟨g, o + i * 3, none⟩ = some (.int .i64 dn)), (14, fun w' => w'.cell? ⟨g', o' + i * 3, none⟩ = some (.int .i64 dn))] w6.drew := Facts.cons_hold p1 (Facts.cons_hold p2 (Facts.cons_hold p3 (Facts.cons_hold p4 (Facts.nil_hold _))))
      refine wp_region_noPanic ?_
      refine wpD_region hold (by kernel_rfl) 17 rfl ?_
      (refine wpD_plain 0 (v := ?_) rfl (by kernel_rfl) (by kernel_rfl) (by kernel_rfl) (fun _ _ _ h => h) (by rfl) ?_ (by assumption) ?_; rotate_left; (intro _w; go_simp; try with_reducible rfl); simp only [Act.put, K.put3])
      (refine wpD_plain 1 (v := ?_) rfl (by kernel_rfl) (by kernel_rfl) (by kernel_rfl) (fun _ _ _ h => h) (by rfl) ?_ (by assumption) ?_; rotate_left; (intro _w; go_simp; try with_reducible rfl); simp only [Act.put, K.put3])
      (refine wpD_plain 2 (v := ?_) rfl (by kernel_rfl) (by kernel_rfl) (by kernel_rfl) (fun _ _ _ h => h) (by rfl) ?_ (by assumption) ?_; rotate_left; (intro _w; go_simp; try with_reducible rfl); simp only [Act.put, K.put3])
      (refine wpD_plain 3 (v := ?_) rfl (by kernel_rfl) (by kernel_rfl) (by kernel_rfl) (fun _ _ _ h => h) (by rfl) ?_ (by assumption) ?_; rotate_left; (intro _w; go_simp; try with_reducible rfl); simp only [Act.put, K.put3])
      (refine wpD_take 4 _ rfl (by kernel_rfl) (by kernel_rfl) (by kernel_rfl) (fun _ _ _ h => h) List.mem_cons_self (by rfl) (v := ?_) ?_ (by assumption) ?_; rotate_left; (intro _w _hw; go_simp; try with_reducible rfl); simp only [Act.put, K.put3])
      (refine wpD_plain 5 (v := ?_) rfl (by kernel_rfl) (by kernel_rfl) (by kernel_rfl) (fun _ _ _ h => h) (by rfl) ?_ (by assumption) ?_; rotate_left; (intro _w; go_simp; try with_reducible rfl); simp only [Act.put, K.put3])
      (refine wpD_plain 6 (v := ?_) rfl (by kernel_rfl) (by kernel_rfl) (by kernel_rfl) (fun _ _ _ h => h) (by rfl) ?_ (by assumption) ?_; rotate_left; (intro _w; go_simp; try with_reducible rfl); simp only [Act.put, K.put3])
      (refine wpD_plain 7 (v := ?_) rfl (by kernel_rfl) (by kernel_rfl) (by kernel_rfl) (fun _ _ _ h => h) (by rfl) ?_ (by assumption) ?_; rotate_left; (intro _w; go_simp; try with_reducible rfl); simp only [Act.put, K.put3])
      (refine wpD_take 8 _ rfl (by kernel_rfl) (by kernel_rfl) (by kernel_rfl) (fun _ _ _ h => h) (List.mem_cons_of_mem _ (List.mem_cons_of_mem _ List.mem_cons_self)) (by rfl) (v := ?_) ?_ (by assumption) ?_; rotate_left; (intro _w _hw; go_simp; try with_reducible rfl); simp only [Act.put, K.put3])
      (refine wpD_plain 9 (v := ?_) rfl (by kernel_rfl) (by kernel_rfl) (by kernel_rfl) (fun _ _ _ h => h) (by rfl) ?_ (by assumption) ?_; rotate_left; (intro _w; go_simp; try with_reducible rfl); simp only [Act.put, K.put3])
      (refine wpD_take 10 _ rfl (by kernel_rfl) (by kernel_rfl) (by kernel_rfl) (fun _ _ _ h => h) (List.mem_cons_of_mem _ List.mem_cons_self) (by rfl) (v := ?_) ?_ (by assumption) ?_; rotate_left; (intro _w _hw; go_simp; try with_reducible rfl); simp only [Act.put, K.put3])
      (refine wpD_plain 11 (v := ?_) rfl (by kernel_rfl) (by kernel_rfl) (by kernel_rfl) (fun _ _ _ h => h) (by rfl) ?_ (by assumption) ?_; rotate_left; (intro _w; go_simp; try with_reducible rfl); simp only [Act.put, K.put3])
      (refine wpD_plain 12 (v := ?_) rfl (by kernel_rfl) (by kernel_rfl) (by kernel_rfl) (fun _ _ _ h => h) (by rfl) ?_ (by assumption) ?_; rotate_left; (intro _w; go_simp; try with_reducible rfl); simp only [Act.put, K.put3])
      (refine wpD_plain 13 (v := ?_) rfl (by kernel_rfl) (by kernel_rfl) (by kernel_rfl) (fun _ _ _ h => h) (by rfl) ?_ (by assumption) ?_; rotate_left; (intro _w; go_simp; try with_reducible rfl); simp only [Act.put, K.put3])
      (refine wpD_take 14 _ rfl (by kernel_rfl) (by kernel_rfl) (by kernel_rfl) (fun _ _ _ h => h) (List.mem_cons_of_mem _ (List.mem_cons_of_mem _ (List.mem_cons_of_mem _ List.mem_cons_self))) (by rfl) (v := ?_) ?_ (by assumption) ?_; rotate_left; (intro _w _hw; go_simp; try with_reducible rfl); simp only [Act.put, K.put3])
      (refine wpD_plain 15 (v := ?_) rfl (by kernel_rfl) (by kernel_rfl) (by kernel_rfl) (fun _ _ _ h => h) (by rfl) ?_ (by assumption) ?_; rotate_left; (intro _w; go_simp; try with_reducible rfl); simp only [Act.put, K.put3])
      (refine wpD_plain 16 (v := ?_) rfl (by kernel_rfl) (by kernel_rfl) (by kernel_rfl) (fun _ _ _ h => h) (by rfl) ?_ (by assumption) ?_; rotate_left; (intro _w; go_simp; try with_reducible rfl); simp only [Act.put, K.put3])
      clear hold
      refine wpD_done (by kernel_rfl) (NoPanic.normal ?_) _
      go_wp2_with fail
      go_roundw
      case rel => exact ⟨i + 1, hlt, by go_num, hid HF6.out.drew⟩
      case measure => simp [intOf]; omega
    · have hle : (nm_ : Int) ≤ i := by omega
      clear hlt
      go_wp2_with fail
      go_ret
      exact ⟨rfl, HF5.out.trans' HI.out⟩
end Go.Proofs.Ythjmkfpdbbfcpaa.ME

namespace Go.Proofs.Ythjmkfpdbbfcpaa.ME
set_option maxRecDepth 100000
open Go.RowKit K Go.Proofs.Ythjmkfpdbbfcpaa.BE Go.Proofs.Ythjmkfpdbbfcpaa.FR

theorem flb_mono {k k' : Nat} (hk : k ≤ k') : ∀ (d : Nat) {f : Fl}, FlB k d f → FlB k' d f
  | 0, _, _ => trivial
  | d + 1, f, h => ⟨Nat.le_trans h.1 hk, Nat.le_trans h.2.1 hk, Nat.le_trans h.2.2.1 hk, Nat.le_trans h.2.2.2.1 hk, Nat.le_trans h.2.2.2.2.1 hk, fun a ha => Nat.le_trans (h.2.2.2.2.2.1 a ha) hk, Nat.le_trans h.2.2.2.2.2.2.1 hk, fun x hx => flb_mono hk d (h.2.2.2.2.2.2.2 x hx)⟩
theorem wb_arg {k : Nat} {m : Msg} (h : MsgB k m) (hk : k ≤ 1048576) : WB m :=
  ⟨flb_mono hk 6 (h.filter 6), Nat.le_trans h.wants.1 hk, ⟨Nat.le_trans h.list.1 hk, fun x hx => Nat.le_trans (h.list.2 x hx).2.1 hk⟩, ⟨Nat.le_trans h.mods.1 hk, fun x hx => Nat.le_trans (h.mods.2 x hx).2.1 hk⟩⟩
theorem enc_short (m : Msg) : (encM m).1.length ≤ 4004 := by
  unfold encM
  split
  · unfold encS
    split
    · rename_i h
      exact enc8_len (errN_zero h).2.2
    · exact Nat.zero_le _
  · exact Nat.zero_le _
theorem enc_bad {m : Msg} (h : (encM m).2 ≠ 0) : (encM m).1 = [] := by
  unfold encM at h ⊢
  split
  · rename_i hr
    rw [if_pos hr] at h
    unfold encS
    rw [if_neg h]
  · rfl
theorem enc_good {m : Msg} (h : (encM m).2 = 0) : decP (encM m).1 = (m, 0) := by
  unfold encM at h ⊢
  split
  · rename_i hr
    rw [if_pos hr] at h
    unfold decP
    rw [decR_back hr h]
  · rename_i hr
    rw [if_neg hr] at h
    cases h
set_option maxHeartbeats 16000000 in
theorem messageBack_walk (M : Nat) (m : Msg) (vk va vw vl vm : Value) (w : World) (hm : MsgC M (fun i => i < w.heap.size) w m vk va vw vl vm) (hb : WB m) : Calls Try.prog 3 #[.agg (mcs m vk va vw vl vm).toArray] w fun e w' => e = .returned (.bool true) ∧ Fr No w w' := by
  obtain ⟨E, hE⟩ : ∃ E : Nat → Prop, E = fun i => i < w.heap.size := ⟨_, rfl⟩
  rw [← hE] at hm
  clear hE
  have H := hid hm
  have HEC : Hid (∀ w', Fr No w w' → Calls Try.prog 8 #[.agg (mcs m vk va vw vl vm).toArray] w' fun e w'' => e = .returned (.tuple #[.string (sb (encM m).1), .int .i64 ((encM m).2 : Int)]) ∧ Fr No w' w'') := hid (fun w' hf => pencode_any M E m vk va vw vl vm w' (hm.no hf) hb)
  have HLEN := hid (show (Try.prog.info? 29).map (·.size) = some (mcs m vk va vw vl vm).length from infoMsg)
  have HONE := hid (mcs_one hm)
  have HSL : Hid ((encM m).1.length ≤ 4004) := hid (enc_short m)
  by_cases hk : (encM m).2 = 0
  · have HG := hid (enc_good hk)
    have HGd1 : Hid ((decP (encM m).1).1 = m) := hid (by rw [HG.out])
    have HGd2 : Hid (((decP (encM m).1).2 : Int) = 0) := hid (by rw [HG.out]; rfl)
    have hk2 : (((encM m).2 : Nat) : Int) = 0 := by rw [hk]; rfl
    rw [hk2] at HEC
    obtain ⟨s, hs⟩ : ∃ s, (encM m).1 = s := ⟨_, rfl⟩
    rw [hs] at HEC HGd1 HGd2 HSL
    have HSA : Hid (∀ w' uk ua uw ul um M2 E2, Fr No w w' → MsgC M2 E2 w' m uk ua uw ul um → Calls Try.prog 10 #[.agg (mcs m vk va vw vl vm).toArray, .agg (mcs m uk ua uw ul um).toArray] w' (Sames w')) := hid (fun w' uk ua uw ul um M2 E2 hf h2 => rSame_any E E2 M M2 m vk va vw vl vm uk ua uw ul um w' (H.out.no hf) h2)
    have e : mcs m vk va vw vl vm = [.int .i64 m.id, .int .i64 m.op, .int .i64 m.ver, .string (sb m.name), .string (sb m.pw), .int .i64 m.scope, .int .i64 m.deref, .int .i64 m.size, .int .i64 m.time, .bool m.typesOnly, .int .i64 m.filter.kind, vk, .string (sb m.filter.type), .string (sb m.filter.value), .string (sb m.filter.first), va, .string (sb m.filter.last), vw, vl, vm, .string (sb m.rdn), .bool m.dropOld, .bool m.moves, .string (sb m.sup), .string (sb m.type), .string (sb m.value), .int .i64 m.target, .int .i64 m.code, .string (sb m.matched), .string (sb m.text)] := rfl
    rw [e] at HLEN HONE HEC HSA ⊢
    clear hm hb hk hk2 hs e HG
    go_enter Try.func3, Try.ntmps3
    go_wp2_with (first
      | ((with_reducible refine K.atO (.box 29 _) ?_); refine wpL_box rfl _ _ rfl _ rfl [.int .i64 m.id, .int .i64 m.op, .int .i64 m.ver, .string (sb m.name), .string (sb m.pw), .int .i64 m.scope, .int .i64 m.deref, .int .i64 m.size, .int .i64 m.time, .bool m.typesOnly, .int .i64 m.filter.kind, vk, .string (sb m.filter.type), .string (sb m.filter.value), .string (sb m.filter.first), va, .string (sb m.filter.last), vw, vl, vm, .string (sb m.rdn), .bool m.dropOld, .bool m.moves, .string (sb m.sup), .string (sb m.type), .string (sb m.value), .int .i64 m.target, .int .i64 m.code, .string (sb m.matched), .string (sb m.text)] rfl ?_; intro w1 HB1 F1 HS1)
      | fail)
    refine (awake_any w1).mono ?_
    rintro e w2 ⟨rfl, f2⟩
    have HB2 := hid (HB1.out.fr f2 id); have HF2 := hid (F1.out.trans' f2)
    clear f2
    go_wp2_with (first
      | ((with_reducible refine K.atO (.load 29 _) ?_); refine wpL_load rfl _ _ rfl w.heap.size 0 rfl [.int .i64 m.id, .int .i64 m.op, .int .i64 m.ver, .string (sb m.name), .string (sb m.pw), .int .i64 m.scope, .int .i64 m.deref, .int .i64 m.size, .int .i64 m.time, .bool m.typesOnly, .int .i64 m.filter.kind, vk, .string (sb m.filter.type), .string (sb m.filter.value), .string (sb m.filter.first), va, .string (sb m.filter.last), vw, vl, vm, .string (sb m.rdn), .bool m.dropOld, .bool m.moves, .string (sb m.sup), .string (sb m.type), .string (sb m.value), .int .i64 m.target, .int .i64 m.code, .string (sb m.matched), .string (sb m.text)] _ (HB2.out.range 0 _ rfl) rfl rfl HLEN.out ?_)
      | fail)
    refine (HEC.out w2 HF2.out).mono ?_
    rintro e w3 ⟨rfl, f3⟩
    have HB3 := hid (HB2.out.fr f3 id); have HF3 := hid (HF2.out.trans' f3)
    clear f3
    go_wp2_with fail
    refine (pdecode_any s w3 (by have := HSL.out; omega)).mono ?_
    rintro e w4 ⟨uk, ua, uw, ul, um, rfl, hu, f4⟩
    rw [HGd1.out] at hu ⊢
    rw [HGd2.out]
    have HU := hid hu; have HUO := hid (mcs_one hu); have HB4 := hid (HB3.out.fr f4 id); have HF4 := hid (HF3.out.trans' f4)
    have HUL := hid (show (Try.prog.info? 29).map (·.size) = some (mcs m uk ua uw ul um).length from infoMsg)
    have HSB : Hid (∀ w', Fr No w w' → Fr No w4 w' → Calls Try.prog 10 #[.agg ([.int .i64 m.id, .int .i64 m.op, .int .i64 m.ver, .string (sb m.name), .string (sb m.pw), .int .i64 m.scope, .int .i64 m.deref, .int .i64 m.size, .int .i64 m.time, .bool m.typesOnly, .int .i64 m.filter.kind, vk, .string (sb m.filter.type), .string (sb m.filter.value), .string (sb m.filter.first), va, .string (sb m.filter.last), vw, vl, vm, .string (sb m.rdn), .bool m.dropOld, .bool m.moves, .string (sb m.sup), .string (sb m.type), .string (sb m.value), .int .i64 m.target, .int .i64 m.code, .string (sb m.matched), .string (sb m.text)] : List Value).toArray, .agg (mcs m uk ua uw ul um).toArray] w' (Sames w')) := hid (fun w' hf hf4 => HSA.out w' uk ua uw ul um 6 _ hf (HU.out.no hf4))
    obtain ⟨D, hD⟩ : ∃ D, mcs m uk ua uw ul um = D := ⟨_, rfl⟩
    have HDL : Hid (D.length = 30) := hid (by rw [← hD]; rfl)
    rw [hD] at HUO HUL HSB ⊢
    clear hu f4 hD
    go_wp2_with (first
      | ((with_reducible refine K.atO (.alloc 29) ?_); refine wpL_alloc rfl _ rfl _ zeroMsg [.int .i64 0, .int .i64 0, .int .i64 0, .string ⟨#[]⟩, .string ⟨#[]⟩, .int .i64 0, .int .i64 0, .int .i64 0, .int .i64 0, .bool false, .int .i64 0, .slice none 0 0, .string ⟨#[]⟩, .string ⟨#[]⟩, .string ⟨#[]⟩, .slice none 0 0, .string ⟨#[]⟩, .slice none 0 0, .slice none 0 0, .slice none 0 0, .string ⟨#[]⟩, .bool false, .bool false, .string ⟨#[]⟩, .string ⟨#[]⟩, .string ⟨#[]⟩, .int .i64 0, .int .i64 0, .string ⟨#[]⟩, .string ⟨#[]⟩] rfl ?_; intro w5 HB5 F5 HS5)
      | ((with_reducible refine K.atO (.store 29 _ _) ?_); refine wpL_storeV rfl _ _ _ rfl w4.heap.size 0 (.agg D.toArray) D rfl rfl rfl _ _ HB5.out (by rw [HDL.out]; simp) HUL.out HUO.out ?_; intro w6 HB6 F6 HS6; have HBD : Hid (Blk w6 w4.heap.size 29 D) := hid (by have h := HB6.out; rwa [spl_all (by rw [HDL.out]; simp)] at h); have f46 : Hid (Fr No w4 w6) := hid (F5.out.trans F6.out fun k e => .inr (by have e : k = w4.heap.size := e; omega)); have HB6' := hid (HB4.out.fr f46.out id))
      | ((with_reducible refine K.atO (.load 29 _) ?_); (fail_if_success (have := HL1)); refine wpL_load rfl _ _ rfl w.heap.size 0 rfl [.int .i64 m.id, .int .i64 m.op, .int .i64 m.ver, .string (sb m.name), .string (sb m.pw), .int .i64 m.scope, .int .i64 m.deref, .int .i64 m.size, .int .i64 m.time, .bool m.typesOnly, .int .i64 m.filter.kind, vk, .string (sb m.filter.type), .string (sb m.filter.value), .string (sb m.filter.first), va, .string (sb m.filter.last), vw, vl, vm, .string (sb m.rdn), .bool m.dropOld, .bool m.moves, .string (sb m.sup), .string (sb m.type), .string (sb m.value), .int .i64 m.target, .int .i64 m.code, .string (sb m.matched), .string (sb m.text)] _ (HB6'.out.range 0 _ rfl) rfl rfl HLEN.out ?_; have HL1 : Hid True := hid trivial)
      | ((with_reducible refine K.atO (.load 29 _) ?_); refine wpL_load rfl _ _ rfl w4.heap.size 0 rfl D _ (HBD.out.range 0 _ (by rw [List.drop_zero, List.take_length])) rfl rfl HUL.out ?_)
      | fail)
    refine (HSB.out w6 (HF4.out.trans' f46.out) f46.out).mono ?_
    rintro e w7 ⟨rfl, f7⟩
    have HF7 := hid ((HF4.out.trans' f46.out).trans' f7)
    clear f7
    go_wp2_with fail
    go_ret
    exact ⟨rfl, HF7.out⟩
  · have HSE : Hid ((encM m).1 = []) := hid (enc_bad hk)
    rw [HSE.out] at HEC
    obtain ⟨k, hkk⟩ : ∃ k, (encM m).2 = k := ⟨_, rfl⟩
    rw [hkk] at HEC hk
    have g1 : ((k : Int) == 0) = false := by simpa using hk
    have e : mcs m vk va vw vl vm = [.int .i64 m.id, .int .i64 m.op, .int .i64 m.ver, .string (sb m.name), .string (sb m.pw), .int .i64 m.scope, .int .i64 m.deref, .int .i64 m.size, .int .i64 m.time, .bool m.typesOnly, .int .i64 m.filter.kind, vk, .string (sb m.filter.type), .string (sb m.filter.value), .string (sb m.filter.first), va, .string (sb m.filter.last), vw, vl, vm, .string (sb m.rdn), .bool m.dropOld, .bool m.moves, .string (sb m.sup), .string (sb m.type), .string (sb m.value), .int .i64 m.target, .int .i64 m.code, .string (sb m.matched), .string (sb m.text)] := rfl
    rw [e] at HLEN HONE HEC ⊢
    clear hm hb hk hkk e HSE HSL
    go_enter Try.func3, Try.ntmps3
    go_wp2_with (first
      | ((with_reducible refine K.atO (.box 29 _) ?_); refine wpL_box rfl _ _ rfl _ rfl [.int .i64 m.id, .int .i64 m.op, .int .i64 m.ver, .string (sb m.name), .string (sb m.pw), .int .i64 m.scope, .int .i64 m.deref, .int .i64 m.size, .int .i64 m.time, .bool m.typesOnly, .int .i64 m.filter.kind, vk, .string (sb m.filter.type), .string (sb m.filter.value), .string (sb m.filter.first), va, .string (sb m.filter.last), vw, vl, vm, .string (sb m.rdn), .bool m.dropOld, .bool m.moves, .string (sb m.sup), .string (sb m.type), .string (sb m.value), .int .i64 m.target, .int .i64 m.code, .string (sb m.matched), .string (sb m.text)] rfl ?_; intro w1 HB1 F1 HS1)
      | fail)
    refine (awake_any w1).mono ?_
    rintro e w2 ⟨rfl, f2⟩
    have HB2 := hid (HB1.out.fr f2 id); have HF2 := hid (F1.out.trans' f2)
    clear f2
    go_wp2_with (first
      | ((with_reducible refine K.atO (.load 29 _) ?_); refine wpL_load rfl _ _ rfl w.heap.size 0 rfl [.int .i64 m.id, .int .i64 m.op, .int .i64 m.ver, .string (sb m.name), .string (sb m.pw), .int .i64 m.scope, .int .i64 m.deref, .int .i64 m.size, .int .i64 m.time, .bool m.typesOnly, .int .i64 m.filter.kind, vk, .string (sb m.filter.type), .string (sb m.filter.value), .string (sb m.filter.first), va, .string (sb m.filter.last), vw, vl, vm, .string (sb m.rdn), .bool m.dropOld, .bool m.moves, .string (sb m.sup), .string (sb m.type), .string (sb m.value), .int .i64 m.target, .int .i64 m.code, .string (sb m.matched), .string (sb m.text)] _ (HB2.out.range 0 _ rfl) rfl rfl HLEN.out ?_)
      | fail)
    refine (HEC.out w2 HF2.out).mono ?_
    rintro e w3 ⟨rfl, f3⟩
    have HF3 := hid (HF2.out.trans' f3)
    clear f3
    go_wp2_with (first
      | ((with_reducible refine K.atO (.binOp .eql 9 _ _ _) ?_); refine wpL_valZ (by rfl) (.bool true) ((exec_eqS _ _ _ rfl [] [] rfl rfl _).trans (by simp)) ?_)
      | fail)
    go_ret
    exact ⟨rfl, HF3.out⟩
end Go.Proofs.Ythjmkfpdbbfcpaa.ME
