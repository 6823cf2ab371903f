/-
  The walk of TreePlays.
-/
import Derived.Test.YtlnolnaapnijbaaTrDo
import Derived.Test.YtlnolnaapnijbaaCall
namespace Go.Proofs.Ytlnolnaapnijbaa.TR
set_option maxRecDepth 100000
open Go.RowKit K

theorem info_rt : (Try.prog.info? 48).map (·.size) = some 1 := by kernel_rfl
theorem hentRPut (vs : Array Value) (w : World) : (callFunc 14 vs).run Try.prog w = .ok (.enter 14 vs) w := by kernel_rfl
theorem hentTPut (vs : Array Value) (w : World) : (callFunc 16 vs).run Try.prog w = .ok (.enter 16 vs) w := by kernel_rfl
theorem ac_cells {w : World} {g o i : Nat} {x : Ac} (h : w.rangeAt g (o + i * 4) x.cells) : w.cell? ⟨g, o + i * 4, none⟩ = some (.int .i64 x.how) ∧ w.cell? ⟨g, o + i * 4 + 1, none⟩ = some (.string x.key) ∧ w.cell? ⟨g, o + i * 4 + 2, none⟩ = some (.string x.value) ∧ w.cell? ⟨g, o + i * 4 + 3, none⟩ = some (.int .i64 x.most) :=
  ⟨h 0 _ rfl, h 1 _ rfl, h 2 _ rfl, h 3 _ rfl⟩
theorem ofL_sorted2 (l : L) : Sorted (ofL l) := by
  have : ∀ (l a : L), Sorted a → Sorted (l.foldl (fun a x => put x.1 x.2 a) a) := by
    intro l
    induction l with
    | nil => intro a h; exact h
    | cons x r ih => intro a h; exact ih _ (put_sorted _ _ h)
  exact this l [] List.Pairwise.nil
theorem Two.clone {W w w3 : World} {b br b' : Nat} {T T' : TD} {l lr : L} {v : Value} (h : Two W w b T l br v lr) (t3 : Lv w w3 b' T' l) : Two W w3 b' T' l br v lr ∧ ∀ k, T.fp k → ¬ T'.fp k :=
  ⟨⟨t3.pre h.t.fr, h.r.no t3.fr, fun e => by have := t3.ge br e; have : br < w.heap.size := h.r.blk.lt; omega, fun g hg e => by have := t3.ge g e; have := (h.r.row.lt g hg).2; omega⟩, fun k hk e => by have := h.t.at_.lt k hk; have := t3.ge k e; omega⟩
theorem Two.other {W w w' : World} {b br : Nat} {T : TD} {l lr : L} {v : Value} (h : Two W w b T l br v lr) {D : Nat → Prop} (hf : Fr D w w') (h0 : Fr No W w') (hd : ∀ k, D k → ¬ T.fp k ∧ k ≠ br ∧ v.ownBlock ≠ some k) : Two W w' b T l br v lr :=
  ⟨⟨h.t.b, h.t.at_.fr hf (fun k hk e => (hd k e).1 hk), h0, h.t.ge⟩, ⟨h.r.blk.fr hf (fun e => (hd _ e).2.1 rfl), own_fr h.r.row hf (fun k hk e => (hd k e).2.2 hk), h.r.off, h.r.ge, h0⟩, h.a1, h.a2⟩
set_option maxHeartbeats 16000000 in
theorem treePlays_walk (W : World) (v0 v1 : Value) (x0 : L) (x1 : List Ac) (h0 : PrAt W v0 x0) (h1 : AcsIn W W.heap.size v1 x1) (hd : x0.length ≤ 1048576) : Calls Try.prog 4 #[v0, v1] W fun e W' => e = .returned (.bool true) ∧ Fr No W W' := by
  have H0 := hid h0
  obtain ⟨a0, c0, rfl, -, h0⟩ := h0
  obtain ⟨a1, c1, rfl, hn1, h1⟩ := h1
  have H1 := hid h1; have HX0 := hid h0; have HD := hid hd
  have hn1i : (x1.length : Int) ≤ 4398046511104 := by omega
  have hn0i : (x0.length : Int) ≤ 1048576 := by omega
  have hol := ofL_length x0
  obtain ⟨l, hl⟩ : ∃ l, ofL x0 = l := ⟨_, rfl⟩
  have HL := hid hl
  have HLN : Hid (l.length ≤ x0.length) := hid (by rw [← hl]; exact hol)
  clear h0 hol h1 hn1 hd
  go_enter Try.func4, Try.ntmps4
  go_wp2_with fail
  refine (awake_any W).mono ?_
  rintro e w1 ⟨rfl, f1⟩
  have F1 := hid f1
  clear f1
  go_wp2_with fail
  refine (of_any w1 _ x0 (H0.out.no F1.out)).mono ?_
  rintro e w2 ⟨b, T, rfl, t2⟩
  rw [hl] at t2
  have HT := hid (t2.pre F1.out)
  clear t2 hl
  go_wp2_with ((with_reducible show wpList _ _ _ ({ dst := _, op := .box 48 _, type := _, pos := _, after := _, guard := _ } :: _) _ _); refine wpL_box rfl _ _ rfl _ rfl [.slice none 0 0] rfl ?_; intro w5 HB5 F5 HS5)
  have HA : Hid (Two W w5 b T l w2.heap.size (.slice none 0 0) []) := hid (by
    have hw : W.heap.size ≤ w2.heap.size := HT.out.fr.size
    exact ⟨HT.out.no F5.out, ⟨HB5.out, ⟨rfl, .inl ⟨rfl, rfl⟩⟩, (fun e => by cases e), hw, HT.out.fr.trans' F5.out⟩, fun e => absurd (HT.out.at_.lt _ e) (Nat.lt_irrefl _), fun g e => by cases e⟩)
  obtain ⟨br, hbr⟩ : ∃ n, w2.heap.size = n := ⟨_, rfl⟩
  rw [hbr] at HA ⊢
  clear hbr HB5 HS5
  go_wp2_with fail
  go_loopw [8] (fun i wr => ∃ (j : Nat) (v : Value), j ≤ x0.length ∧ i = .int .i64 (j : Int) ∧ Hid (Two W wr b T l br v (ofL (x0.take j)))) (fun i _ => x0.length - (intOf i).toNat)
  case atStart => exact ⟨0, _, by omega, rfl, HA⟩
  case round =>
    obtain ⟨j, v, hj, rfl, HA⟩ := hrel
    by_cases hlt : j < x0.length
    · have hlt' : (j : Int) < (x0.length : Int) := by omega
      obtain ⟨x, hx⟩ : ∃ x, x0[j]? = some x := ⟨_, List.getElem?_eq_getElem hlt⟩
      obtain ⟨g, o, rfl, HRG⟩ : ∃ g o, a0 = some ⟨g, o, none⟩ ∧ Hid (W.rangeAt g o (pcs x0)) := by
        rcases HX0.out with e | ⟨g, o, e, hr, _⟩
        · rw [e] at hlt; simp at hlt
        · exact ⟨g, o, e, hid hr⟩
      have HX := hid hx
      obtain ⟨ck, cv⟩ := pr_cells (HA.out.t.fr.range HRG.out id) hx
      have htk : Hid (ofL (x0.take (j + 1)) = put x.1 x.2 (ofL (x0.take j))) := hid (by rw [List.take_add_one, hx, ← ofL_snoc]; rfl)
      have HSO : Hid (Sorted (ofL (x0.take j))) := hid (ofL_sorted2 _)
      have HLE : Hid ((ofL (x0.take j)).length + 1 ≤ 4398046511104) := hid (by have h2 := ofL_length (x0.take j); have h3 := List.length_take_le j x0; have := HD.out; omega)
      generalize ofL (x0.take j) = q at HA htk HSO HLE
      clear hx
      go_wp2_with fail
      have hold : Facts.hold [(5, fun w' => w'.cell? ⟨g, o + j * 2, none⟩ = some (.string x.1)), (10, fun w' => w'.cell? ⟨g, o + j * 2 + 1, none⟩ = some (.string x.2))] wr.drew := Facts.cons_hold ck (Facts.cons_hold cv (Facts.nil_hold _))
      refine wpD_region hold (by kernel_rfl) 12 rfl ?_
      (refine wpD_plain 0 (v := ?_) rfl (by kernel_rfl) (by kernel_rfl) (by kernel_rfl) (fun _ _ _ h => h) (by rfl) ?_ (by assumption) ?_; rotate_left; (intro _w; go_simp; try with_reducible rfl); simp only [Act.put, List.setIfInBounds_toArray, List.set_cons_zero, List.set_cons_succ])
      (refine wpD_plain 1 (v := ?_) rfl (by kernel_rfl) (by kernel_rfl) (by kernel_rfl) (fun _ _ _ h => h) (by rfl) ?_ (by assumption) ?_; rotate_left; (intro _w; go_simp; try with_reducible rfl); simp only [Act.put, List.setIfInBounds_toArray, List.set_cons_zero, List.set_cons_succ])
      (refine wpD_plain 2 (v := ?_) rfl (by kernel_rfl) (by kernel_rfl) (by kernel_rfl) (fun _ _ _ h => h) (by rfl) ?_ (by assumption) ?_; rotate_left; (intro _w; go_simp; try with_reducible rfl); simp only [Act.put, List.setIfInBounds_toArray, List.set_cons_zero, List.set_cons_succ])
      (refine wpD_plain 3 (v := (.pointer (some ⟨g, o + j * 2, none⟩))) rfl (by kernel_rfl) (by kernel_rfl) (by kernel_rfl) (fun _ _ _ h => h) (by rfl) ?_ (by assumption) ?_; (intro _w; go_simp; skip); simp only [Act.put, List.setIfInBounds_toArray, List.set_cons_zero, List.set_cons_succ])
      (refine wpD_plain 4 (v := ?_) rfl (by kernel_rfl) (by kernel_rfl) (by kernel_rfl) (fun _ _ _ h => h) (by rfl) ?_ (by assumption) ?_; rotate_left; (intro _w; go_simp; try with_reducible rfl); simp only [Act.put, List.setIfInBounds_toArray, List.set_cons_zero, List.set_cons_succ])
      (refine wpD_take 5 _ rfl (by kernel_rfl) (by kernel_rfl) (by kernel_rfl) (fun _ _ _ h => h) List.mem_cons_self (by rfl) (v := ?_) ?_ (by assumption) ?_; rotate_left; (intro _w _hw; go_simp; try with_reducible rfl); simp only [Act.put, List.setIfInBounds_toArray, List.set_cons_zero, List.set_cons_succ])
      (refine wpD_plain 6 (v := ?_) rfl (by kernel_rfl) (by kernel_rfl) (by kernel_rfl) (fun _ _ _ h => h) (by rfl) ?_ (by assumption) ?_; rotate_left; (intro _w; go_simp; try with_reducible rfl); simp only [Act.put, List.setIfInBounds_toArray, List.set_cons_zero, List.set_cons_succ])
      (refine wpD_plain 7 (v := ?_) rfl (by kernel_rfl) (by kernel_rfl) (by kernel_rfl) (fun _ _ _ h => h) (by rfl) ?_ (by assumption) ?_; rotate_left; (intro _w; go_simp; try with_reducible rfl); simp only [Act.put, List.setIfInBounds_toArray, List.set_cons_zero, List.set_cons_succ])
      (refine wpD_plain 8 (v := (.pointer (some ⟨g, o + j * 2, none⟩))) rfl (by kernel_rfl) (by kernel_rfl) (by kernel_rfl) (fun _ _ _ h => h) (by rfl) ?_ (by assumption) ?_; (intro _w; go_simp; skip); simp only [Act.put, List.setIfInBounds_toArray, List.set_cons_zero, List.set_cons_succ])
      (refine wpD_plain 9 (v := ?_) rfl (by kernel_rfl) (by kernel_rfl) (by kernel_rfl) (fun _ _ _ h => h) (by rfl) ?_ (by assumption) ?_; rotate_left; (intro _w; go_simp; try with_reducible rfl); simp only [Act.put, List.setIfInBounds_toArray, List.set_cons_zero, List.set_cons_succ])
      (refine wpD_take 10 _ rfl (by kernel_rfl) (by kernel_rfl) (by kernel_rfl) (fun _ _ _ h => h) (List.mem_cons_of_mem _ List.mem_cons_self) (by rfl) (v := ?_) ?_ (by assumption) ?_; rotate_left; (intro _w _hw; go_simp; try with_reducible rfl); simp only [Act.put, List.setIfInBounds_toArray, List.set_cons_zero, List.set_cons_succ])
      refine wpD_only 11 [] rfl (by kernel_rfl) (by kernel_rfl) (by rfl) (fun K11 hK11 => ?_)
      refine wp_call (.func 14) _ _ rfl 14 [] rfl hentRPut [pt br, .string x.1, .string x.2] (by rfl) ?_
      refine (rput_any W wr.drew br v q x.1 x.2 (HA.out.r.no (Fr.refl No wr).drew) HSO.out HLE.out).mono ?_
      rintro e w6 ⟨rfl, v6, r6, f6, g6⟩
      refine ⟨_, rfl, ?_⟩
      have HA6 := hid ((HA.out.no (Fr.refl No wr).drew).ofR r6 f6 g6)
      rw [← htk.out] at HA6
      refine hK11 _ _ (Facts.nil_hold _) ?_
      clear hK11 K11 hold r6 f6 g6 ck cv
      simp only [Act.put, List.setIfInBounds_toArray, List.set_cons_zero, List.set_cons_succ]
      refine wpD_done (by kernel_rfl) ?_ _
      go_wp2_with fail
      exact ⟨⟨j + 1, v6, by omega, by go_num, HA6⟩, by simp [intOf]; omega⟩
    · have hge : ¬ ((j : Int) < (x0.length : Int)) := by omega
      have HA2 : Hid (Two W wr b T l br v l) := hid (by have h := HA.out; rwa [List.take_of_length_le (by omega), HL.out] at h)
      have HSO : Hid (Sorted l) := hid (by rw [← HL.out]; exact ofL_sorted2 _)
      clear HA HL hj
      go_wp2_with fail
      go_loopw [6, 9] (fun sb i wr => ∃ (j : Nat) (b : Nat) (T : TD) (l : L) (v : Value), j ≤ x1.length ∧ j ≤ 200 ∧ sb = pt b ∧ i = .int .i64 (j : Int) ∧ l.length ≤ x0.length + j ∧ Hid (Sorted l) ∧ Hid (Two W wr b T l br v l)) (fun _ i _ => 200 - (intOf i).toNat)
      case atStart => exact ⟨0, b, T, l, v, by omega, by omega, rfl, rfl, by have := HLN.out; omega, HSO, HA2⟩
      case round =>
        clear HA2 HSO HLN
        obtain ⟨j, b, T, l, v, hj, hj2, rfl, rfl, hl, HSO, HA⟩ := hrel
        have hlb : l.length ≤ 1048776 := by have := HD.out; omega
        have HLB := hid hlb
        clear hlb
        by_cases hlt : j < x1.length ∧ j < 200
        · obtain ⟨hlt1, hlt2⟩ := hlt
          have hlt1' : (j : Int) < (x1.length : Int) := by omega
          have hlt2' : (j : Int) < 200 := by omega
          obtain ⟨x, hx⟩ : ∃ x, x1[j]? = some x := ⟨_, List.getElem?_eq_getElem hlt1⟩
          obtain ⟨g, o, rfl, -, hr⟩ := H1.out j x hx
          have HR := hid hr
          obtain ⟨k0, k1, k2, k3⟩ := ac_cells (HA.out.t.fr.range hr id)
          clear hr hx
          by_cases h5 : x.how = 5
          · go_wp2_with fail
            refine (HA.out.t.clone (by have := HLB.out; omega)).mono ?_
            rintro e w3 ⟨b', T', rfl, t3⟩
            obtain ⟨h2, hd⟩ := HA.out.clone t3
            have HA3 := hid h2; have HD3 := hid hd; have HT3 := hid (HA.out.t.no t3.fr)
            obtain ⟨z0, z1, z2, z3⟩ := ac_cells (HA3.out.t.fr.range HR.out id)
            have HA0 := HA
            clear h2 hd t3 HA k0 k1 k2 k3
            go_wp2_with fail
            have hold : Facts.hold [(5, fun w' => w'.cell? ⟨g, o + j * 4 + 1, none⟩ = some (.string x.key)), (10, fun w' => w'.cell? ⟨g, o + j * 4 + 2, none⟩ = some (.string x.value))] w3.drew := Facts.cons_hold z1 (Facts.cons_hold z2 (Facts.nil_hold _))
            refine wpD_region hold (by kernel_rfl) 12 rfl ?_
            (refine wpD_plain 0 (v := ?_) rfl (by kernel_rfl) (by kernel_rfl) (by kernel_rfl) (fun _ _ _ h => h) (by rfl) ?_ (by assumption) ?_; rotate_left; (intro _w; go_simp; try with_reducible rfl); simp only [Act.put, List.setIfInBounds_toArray, List.set_cons_zero, List.set_cons_succ])
            (refine wpD_plain 1 (v := ?_) rfl (by kernel_rfl) (by kernel_rfl) (by kernel_rfl) (fun _ _ _ h => h) (by rfl) ?_ (by assumption) ?_; rotate_left; (intro _w; go_simp; try with_reducible rfl); simp only [Act.put, List.setIfInBounds_toArray, List.set_cons_zero, List.set_cons_succ])
            (refine wpD_plain 2 (v := ?_) rfl (by kernel_rfl) (by kernel_rfl) (by kernel_rfl) (fun _ _ _ h => h) (by rfl) ?_ (by assumption) ?_; rotate_left; (intro _w; go_simp; try with_reducible rfl); simp only [Act.put, List.setIfInBounds_toArray, List.set_cons_zero, List.set_cons_succ])
            (refine wpD_plain 3 (v := (.pointer (some ⟨g, o + j * 4, none⟩))) rfl (by kernel_rfl) (by kernel_rfl) (by kernel_rfl) (fun _ _ _ h => h) (by rfl) ?_ (by assumption) ?_; (intro _w; go_simp; skip); simp only [Act.put, List.setIfInBounds_toArray, List.set_cons_zero, List.set_cons_succ])
            (refine wpD_plain 4 (v := ?_) rfl (by kernel_rfl) (by kernel_rfl) (by kernel_rfl) (fun _ _ _ h => h) (by rfl) ?_ (by assumption) ?_; rotate_left; (intro _w; go_simp; try with_reducible rfl); simp only [Act.put, List.setIfInBounds_toArray, List.set_cons_zero, List.set_cons_succ])
            (refine wpD_take 5 _ rfl (by kernel_rfl) (by kernel_rfl) (by kernel_rfl) (fun _ _ _ h => h) List.mem_cons_self (by rfl) (v := ?_) ?_ (by assumption) ?_; rotate_left; (intro _w _hw; go_simp; try with_reducible rfl); simp only [Act.put, List.setIfInBounds_toArray, List.set_cons_zero, List.set_cons_succ])
            (refine wpD_plain 6 (v := ?_) rfl (by kernel_rfl) (by kernel_rfl) (by kernel_rfl) (fun _ _ _ h => h) (by rfl) ?_ (by assumption) ?_; rotate_left; (intro _w; go_simp; try with_reducible rfl); simp only [Act.put, List.setIfInBounds_toArray, List.set_cons_zero, List.set_cons_succ])
            (refine wpD_plain 7 (v := ?_) rfl (by kernel_rfl) (by kernel_rfl) (by kernel_rfl) (fun _ _ _ h => h) (by rfl) ?_ (by assumption) ?_; rotate_left; (intro _w; go_simp; try with_reducible rfl); simp only [Act.put, List.setIfInBounds_toArray, List.set_cons_zero, List.set_cons_succ])
            (refine wpD_plain 8 (v := (.pointer (some ⟨g, o + j * 4, none⟩))) rfl (by kernel_rfl) (by kernel_rfl) (by kernel_rfl) (fun _ _ _ h => h) (by rfl) ?_ (by assumption) ?_; (intro _w; go_simp; skip); simp only [Act.put, List.setIfInBounds_toArray, List.set_cons_zero, List.set_cons_succ])
            (refine wpD_plain 9 (v := ?_) rfl (by kernel_rfl) (by kernel_rfl) (by kernel_rfl) (fun _ _ _ h => h) (by rfl) ?_ (by assumption) ?_; rotate_left; (intro _w; go_simp; try with_reducible rfl); simp only [Act.put, List.setIfInBounds_toArray, List.set_cons_zero, List.set_cons_succ])
            (refine wpD_take 10 _ rfl (by kernel_rfl) (by kernel_rfl) (by kernel_rfl) (fun _ _ _ h => h) (List.mem_cons_of_mem _ List.mem_cons_self) (by rfl) (v := ?_) ?_ (by assumption) ?_; rotate_left; (intro _w _hw; go_simp; try with_reducible rfl); simp only [Act.put, List.setIfInBounds_toArray, List.set_cons_zero, List.set_cons_succ])
            refine wpD_only 11 [] rfl (by kernel_rfl) (by kernel_rfl) (by rfl) (fun K11 hK11 => ?_)
            refine wp_call (.func 16) _ _ rfl 16 [] rfl hentTPut [pt b, .string x.key, .string x.value] (by rfl) ?_
            refine ((HT3.out.no (Fr.refl No w3).drew).putTo (by have := HLB.out; omega) x.key x.value).mono ?_
            rintro e w6 ⟨rfl, T6, t6, f6, g6⟩
            refine ⟨_, rfl, ?_⟩
            have HA6 := hid ((HA3.out.no (Fr.refl No w3).drew).other f6 t6.fr (fun k hk => ⟨HD3.out k hk, fun e => HA0.out.a1 (by rw [← e]; exact hk), fun e => HA0.out.a2 k e hk⟩))
            refine hK11 _ _ (Facts.nil_hold _) ?_
            clear hK11 K11 hold t6 f6 g6 z0 z1 z2 z3 HA3 HT3 HA0 HD3
            simp only [Act.put, List.setIfInBounds_toArray, List.set_cons_zero, List.set_cons_succ]
            refine wpD_done (by kernel_rfl) ?_ _
            go_wp2_with fail
            exact ⟨⟨j + 1, b', T', l, v, by omega, by omega, rfl, by go_num, by omega, HSO, HA6⟩, by simp [intOf]; omega⟩
          · go_wp2_with fail
            refine (does_any W wr b br T v l l x HA.out HSO.out (by have := HLB.out; omega) (by have := HLB.out; omega)).mono ?_
            rintro e w6 ⟨q, T6, v6, rfl, hq, h6, -, -, -⟩
            obtain rfl := hq rfl
            have HA6 := hid h6
            have HS6 := hid (stp_sorted x HSO.out)
            have hsl := stp_length x l
            have HL6 : Hid ((stp x l).length ≤ 1048777) := hid (by have := HLB.out; omega)
            generalize stp x l = l6 at HA6 HS6 hsl HL6
            clear hq h6 k0 k1 k2 k3 HA HSO
            go_wp2_with fail
            refine HA6.out.t.len.mono ?_
            rintro e w7 ⟨rfl, rfl⟩
            go_wp2_with fail
            refine (short_any HA6.out.t (by have := HL6.out; omega)).mono ?_
            rintro e w8 ⟨rfl, t8, f8⟩
            have HA8 := hid (HA6.out.no f8)
            obtain ⟨a8, c8, rfl, -⟩ := pr_new HA8.out.r.row
            have r0 : w8.cell? ⟨br, 0, none⟩ = some (.slice a8 l6.length c8) := HA8.out.r.blk.cell 0
            clear t8 f8 HA6
            go_wp2_with fail
            exact ⟨⟨j + 1, b, T6, l6, _, by omega, by omega, rfl, by go_num, by omega, HS6, HA8⟩, by simp [intOf]; omega⟩
        · have hcase : x1.length ≤ j ∨ (j < x1.length ∧ j = 200) := by omega
          obtain ⟨a8, c8, rfl, -⟩ := pr_new HA.out.r.row
          have HA' := HA
          clear HA
          rcases hcase with hge | ⟨hge, h100⟩
          · have hge' : ¬ ((j : Int) < (x1.length : Int)) := by omega
            go_wp2_with fail
            refine (HA'.out.t.all (by have := HLB.out; omega)).mono ?_
            rintro e w7 ⟨pv7, rfl, p7, t7, f7⟩
            have HA7 := hid (HA'.out.no f7)
            have HP7 := hid p7.pr
            obtain ⟨a7, c7, rfl, -⟩ := p7
            have r0 : w7.cell? ⟨br, 0, none⟩ = some (.slice a8 l.length c8) := HA7.out.r.blk.cell 0
            clear t7 f7
            go_wp2_with fail
            refine (same_any w7 _ _ l l HP7.out (pr_new HA7.out.r.row).pr (by have := HLB.out; omega) (by have := HLB.out; omega)).mono ?_
            rintro e w8 ⟨rfl, f8⟩
            have HF8 := hid (HA7.out.t.fr.trans' f8)
            have hdec : decide (l = l) = true := by simp
            rw [hdec]
            clear f8 hdec
            go_wp2_with fail
            go_ret
            exact ⟨rfl, HF8.out⟩
          · have hge' : (j : Int) < (x1.length : Int) := by omega
            have h100' : ¬ ((j : Int) < 200) := by omega
            go_wp2_with fail
            refine (HA'.out.t.all (by have := HLB.out; omega)).mono ?_
            rintro e w7 ⟨pv7, rfl, p7, t7, f7⟩
            have HA7 := hid (HA'.out.no f7)
            have HP7 := hid p7.pr
            obtain ⟨a7, c7, rfl, -⟩ := p7
            have r0 : w7.cell? ⟨br, 0, none⟩ = some (.slice a8 l.length c8) := HA7.out.r.blk.cell 0
            clear t7 f7
            go_wp2_with fail
            refine (same_any w7 _ _ l l HP7.out (pr_new HA7.out.r.row).pr (by have := HLB.out; omega) (by have := HLB.out; omega)).mono ?_
            rintro e w8 ⟨rfl, f8⟩
            have HF8 := hid (HA7.out.t.fr.trans' f8)
            have hdec : decide (l = l) = true := by simp
            rw [hdec]
            clear f8 hdec
            go_wp2_with fail
            go_ret
            exact ⟨rfl, HF8.out⟩
end Go.Proofs.Ytlnolnaapnijbaa.TR
