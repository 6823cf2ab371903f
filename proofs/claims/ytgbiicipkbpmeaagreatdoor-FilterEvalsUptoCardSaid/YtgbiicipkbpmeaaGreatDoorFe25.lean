/-
  Part 25 of the proof: FtNm.
-/
import Derived.Test.YtgbiicipkbpmeaaGreatDoorFe24
import Derived.Test.YtgbiicipkbpmeaaGreatDoorFe11
set_option linter.unusedSimpArgs false
set_option linter.unusedVariables false
namespace Go.Proofs.YtgbiicipkbpmeaaGreatDoor.FT
set_option maxRecDepth 100000
set_option maxHeartbeats 128000000
open Go.RowKit K BE DN SC
theorem bav (a b : B) (w : World) : (Instr.build 191 [(0, .string (sb a)), (1, .string (sb b))].toArray).run Tryz.prog w = .ok (.agg #[.string (sb a), .string (sb b)]) w := by kernel_rfl
theorem zeroAv : ∀ w, (zeroValue 191).run Tryz.prog w = .ok (.agg #[.string ⟨#[]⟩, .string ⟨#[]⟩]) w := fun _ => by kernel_rfl
def RowB (base : Nat) (w : World) (v : Value) (r : Rd) : Prop := (r = [] ∧ v = .slice none 0 0) ∨ ∃ g cap, r ≠ [] ∧ v = .slice (some ⟨g, 0, none⟩) r.length cap ∧ r.length ≤ cap ∧ base ≤ g ∧ g < w.heap.size ∧ w.rangeAt g 0 (avs r)
theorem RowB.no {base : Nat} {w w' : World} {v : Value} {r : Rd} (h : RowB base w v r) (hf : Fr No w w') : RowB base w' v r := by
 rcases h with h | ⟨g, cap, h1, h2, h3, hb, h4, h5⟩
 ·exact .inl h
 ·exact .inr ⟨g, cap, h1, h2, h3, hb, Nat.lt_of_lt_of_le h4 hf.size, hf.range h5 id⟩
theorem RowB.rd {base : Nat} {w : World} {v : Value} {r : Rd} (h : RowB base w v r) (hz : ∀ x ∈ r, Sz x.1 ∧ Sz x.2) (hl : r.length ≤ 140737488351232) : RdIn (fun k => base ≤ k) w v r := by
 rcases h with ⟨rfl, rfl⟩ | ⟨g, cap, h1, rfl, h3, hb, h4, h5⟩
 ·exact ⟨none, 0, rfl, Nat.le_refl _, by simp, .inl rfl⟩
 ·refine ⟨_, cap, rfl, h3, hl, .inr ⟨g, 0, r.map fun x => [Value.string (sb x.1), Value.string (sb x.2)], rfl, hb, h4, by rw [← avs_flat]; exact h5, List.length_map _, fun c hc => ?_, fun j x c hx hc => ?_⟩⟩
  ·obtain ⟨x, -, rfl⟩ := List.mem_map.1 hc
   rfl
  ·rw [List.getElem?_map, hx] at hc
   obtain rfl := Option.some.inj hc
   exact ⟨rfl, hz x (List.mem_of_getElem? hx)⟩
theorem RowB.form {base : Nat} {w : World} {v : Value} {r : Rd} (h : RowB base w v r) : ∃ a c, v = .slice a r.length c := by
 rcases h with ⟨rfl, rfl⟩ | ⟨g, cap, h1, rfl, -⟩
 ·exact ⟨_, _, rfl⟩
 ·exact ⟨_, _, rfl⟩
theorem avs_app (a b : Rd) : avs (a ++ b) = avs a ++ avs b := by unfold avs; rw [List.flatMap_append]
theorem avs_mid (A B : Rd) (a : Av) : avs (A ++ a :: B) = avs A ++ avs [a] ++ avs B := by rw [avs_app, List.append_assoc]; rfl
theorem avs_len : ∀ r : Rd, (avs r).length = r.length * 2
 | [] => rfl
 | x :: r => by
  have h := avs_len r
  have e : avs (x :: r) = [.string (sb x.1), .string (sb x.2)] ++ avs r := rfl
  rw [e, List.length_append, h, List.length_cons]
  simp only [List.length_cons, List.length_nil]
  omega
theorem avs_one (r : Rd) : ∀ u ∈ avs r, u.oneCell' = true := by
 intro u hu
 obtain ⟨x, -, hx⟩ := List.mem_flatMap.1 hu
 simp only [List.mem_cons, List.not_mem_nil, or_false] at hx
 rcases hx with rfl | rfl <;> rfl
theorem avs_at {r : Rd} {j : Nat} {c : Av} (h : r[j]? = some c) : (avs r)[j * 2]? = some (.string (sb c.1)) := by
 have hj := (List.getElem?_eq_some_iff.1 h).1
 have e : avs r = avs (r.take j) ++ ([.string (sb c.1), .string (sb c.2)] ++ avs (r.drop (j + 1))) := by
  have hs : r = r.take j ++ c :: r.drop (j + 1) := by
   obtain ⟨h1, h2⟩ := List.getElem?_eq_some_iff.1 h
   rw [← h2, List.getElem_cons_drop, List.take_append_drop]
  conv => lhs; rw [hs, avs_app]
  rfl
 have hl : (avs (r.take j)).length = j * 2 := by rw [avs_len, List.length_take, Nat.min_eq_left (Nat.le_of_lt hj)]
 rw [e, List.getElem?_append_right (by omega), hl, Nat.sub_self]
 rfl
theorem buildAva0 : ∀ w, (Instr.buildSlice 175 0 #[]).run Tryz.prog w = .ok (.slice (some ⟨w.heap.size, 0, none⟩) 0 0) (w.alloc (.cells #[] 191)) := fun _ => by kernel_rfl
theorem infoAvI : Info 191 (.agg #[.string ⟨#[]⟩, .string ⟨#[]⟩]) 2 32 := by unfold Info; kernel_rfl
theorem RowB.own {base base2 : Nat} {w : World} {v : Value} {R : Rd} {n : Nat} (ho : w.ownsRow base2 191 2 v n (avs R)) (hn : n = R.length) (hR : R ≠ []) (hb : base ≤ base2) : RowB base w v R := by
 subst hn
 obtain ⟨a, cap, rfl, -, hp⟩ := own_form ho
 have hl : 0 < R.length := List.length_pos_iff.2 hR
 have hcap : R.length ≤ cap := by
  rcases ho.2 with ⟨h2, h0⟩ | ⟨g', cap', cur, h2, _, _, h3, _⟩
  ·have h0 : R.length = 0 := h0
   omega
  ·simp only [Value.slice.injEq] at h2
   omega
 obtain ⟨g, rfl⟩ := hp (by omega)
 have hg := own_ge ho g rfl
 refine .inr ⟨g, cap, hR, rfl, hcap, Nat.le_trans hb hg.1, hg.2, ?_⟩
 intro j u hj
 have := ho.cells (g := g) rfl j u hj
 rwa [Addr.add_mid] at this
theorem rg_take {w : World} {g : Nat} {acc : Rd} (h : w.rangeAt g 0 (avs acc)) (t : Nat) : ∀ (j : Nat) u, (avs (acc.take t))[j]? = some u → w.cell? ((⟨g, 0, none⟩ : Addr).add j) = some u := by
 intro j u hj
 rw [Addr.add_mid]
 refine h j u ?_
 have e : avs acc = avs (acc.take t) ++ avs (acc.drop t) := by rw [← avs_app, List.take_append_drop]
 rw [e, List.getElem?_append_left (List.getElem?_eq_some_iff.1 hj).1]
 exact hj
theorem rg_drop {w : World} {g : Nat} {acc : Rd} (h : w.rangeAt g 0 (avs acc)) (t : Nat) (ht : t ≤ acc.length) : ∀ (j : Nat) u, (avs (acc.drop t))[j]? = some u → w.cell? ((⟨g, t * 2, none⟩ : Addr).add j) = some u := by
 intro j u hj
 rw [Addr.add_mid]
 have e : avs acc = avs (acc.take t) ++ avs (acc.drop t) := by rw [← avs_app, List.take_append_drop]
 have hl : (avs (acc.take t)).length = t * 2 := by rw [avs_len, List.length_take, Nat.min_eq_left ht]
 have := h (t * 2 + j) u (by rw [e, List.getElem?_append_right (by omega), hl, Nat.add_sub_cancel_left]; exact hj)
 rwa [Nat.zero_add] at this
theorem rnorm_any {S : Nat → Prop} (v : Value) (n : Nm) (w : World) (h : NmIn S w v n) (hl : n.length ≤ 1000) (hb : ∀ r ∈ n, RdS r) :
  Calls Tryz.prog 138 #[v] w fun e w' => ∃ v', e = .returned v' ∧ NmIn (fun k => w.heap.size ≤ k) w' v' (norm n) ∧ Fr No w w' := by
 obtain ⟨va, vcp, rfl, -, -⟩ := h.form
 obtain ⟨N, hN⟩ : ∃ N, n.length = N := ⟨_, rfl⟩
 have HE := hid h; have HN := hid hN; have HBD := hid hb
 rw [hN] at HE hl ⊢
 have hNi : (N : Int) ≤ 1000 := by omega
 clear h hN hb
 go_enter Tryz.func138, Tryz.ntmps138
 go_wp2_with fail
 go_loopw [3, 4] (fun nv iv wr => ∃ (i : Nat) (vs : List Value), iv = .int .i64 i ∧ i ≤ N ∧ Hid (Rs w wr nv (.slice none 0 0) (norm (n.take i)) [] vs ∧ vs.length = i)) (fun _ iv _ => N - (intOf iv).toNat)
 case atStart => exact ⟨0, [], rfl, Nat.zero_le _, hid ⟨⟨owR_nil (Fr.refl _ _), owR_nil (Fr.refl _ _), (fun g e => by cases e), (fun i r v e => by simp [norm] at e), (fun x hx => by cases hx)⟩, rfl⟩⟩
 case round =>
  obtain ⟨i, vs, rfl, hi, HR⟩ := hrel
  by_cases hlt : i < N
  ·have hlen : (norm (n.take i)).length = i := by rw [norm_length, List.length_take, HN.out]; omega
   have hno := HR.out.1.no
   rw [hlen] at hno
   obtain ⟨na, nc, rfl⟩ := hno.1
   have HNO := hid hno
   have HLEN := hid hlen
   obtain ⟨x, hx⟩ : ∃ x, n[i]? = some x := ⟨_, List.getElem?_eq_getElem (by rw [HN.out]; exact hlt)⟩
   have hlti : (i : Int) < N := by omega
   have hi0 : (0 : Int) ≤ i := by omega
   obtain ⟨g, o, cq, c, e1, -, hgw, hrr, hc, hxa⟩ := (NmIn.no HE.out hno.fr).get hx
   rw [HN.out] at e1
   obtain ⟨rfl, rfl⟩ := K.sj e1
   obtain ⟨vx, rfl, hvx⟩ := hxa
   have hcell : wr.cell? ⟨g, o + i, none⟩ = some vx := by have := hrr 0 vx rfl; simpa using this
   obtain ⟨xa, xc, rfl, -, -⟩ := Sl.form hvx
   obtain ⟨R, hR⟩ : ∃ R, x.length = R := ⟨_, rfl⟩
   rw [hR] at hvx hcell
   have HVX := hid hvx; have HC0 := hid hcell; have HRR := hid hR
   have HRB := hid (HBD.out x (List.mem_of_getElem? hx))
   have hRi : (R : Int) ≤ 1000 := by have := HRB.out.1; omega
   have HNX : Hid (norm (n.take (i + 1)) = norm (n.take i) ++ [normR x]) := hid (by
    rw [List.take_add_one, hx]
    simp [norm])
   have HLT := hid hlt
   clear hc hgw hrr hvx hx hlt hno hlen hcell hR
   obtain ⟨w1, hw1⟩ : ∃ y, y = wr := ⟨_, rfl⟩
   subst hw1
   go_wp2_with fail
   go_loopw [5, 6] (fun bv kv wr => ∃ (k : Nat) (b : Value), kv = .int .i64 k ∧ b = bv ∧ k ≤ R ∧ Hid (RowB w1.heap.size wr b (srt ((x.take k).map foldA))) ∧ Hid (Fr No w1 wr)) (fun _ kv _ => R - (intOf kv).toNat)
   case atStart => exact ⟨0, _, rfl, rfl, Nat.zero_le _, hid (.inl ⟨rfl, rfl⟩), hid (Fr.refl _ _)⟩
   case round =>
    obtain ⟨k, b, rfl, rfl, hk, HB, HF2⟩ := hrel
    have c0 : wr.cell? ⟨g, o + i, none⟩ = some (.slice xa R xc) := HF2.out.cell HC0.out id
    by_cases hkR : k < R
    ·obtain ⟨p, hp⟩ : ∃ p, x[k]? = some p := ⟨_, List.getElem?_eq_getElem (by rw [HRR.out]; exact hkR)⟩
     have hkRi : (k : Int) < R := by omega
     have hk0 : (0 : Int) ≤ k := by omega
     have HKR := hid hkR
     obtain ⟨g2, o2, x2c, cs, e1, -, -, hr2, -, ⟨rfl, -, -⟩⟩ := Sl.get (Sl.fr (D := No) HVX.out HF2.out (fun _ _ _ e => e) (fun _ _ _ h => h)) hp
     rw [HRR.out] at e1
     obtain ⟨rfl, rfl⟩ := K.sj e1
     have HPB := hid (HRB.out.2 p (List.mem_of_getElem? hp))
     have HP := hid hp
     have c1 : wr.cell? ⟨g2, o2 + k * 2, none⟩ = some (.string (sb p.1)) := hr2 0 _ rfl
     have c2 : wr.cell? ⟨g2, o2 + k * 2 + 1, none⟩ = some (.string (sb p.2)) := hr2 1 _ rfl
     have HD0 : Hid (wr.drew.cell? ⟨g, o + i, none⟩ = some (.slice (some ⟨g2, o2, none⟩) R xc)) := hid c0
     have HD1 : Hid (wr.drew.cell? ⟨g2, o2 + k * 2, none⟩ = some (.string (sb p.1))) := hid c1
     have HD2 : Hid (wr.drew.cell? ⟨g2, o2 + k * 2 + 1, none⟩ = some (.string (sb p.2))) := hid c2
     clear hkR hp hr2
     go_wp2_with fail
     have d0 := HD0.out; have d1 := HD1.out; have d2 := HD2.out
     have hold : Facts.hold [(3, fun w' => w'.cell? ⟨g, o + i, none⟩ = some (.slice (some ⟨g2, o2, none⟩) R xc)), (7, fun w' => w'.cell? ⟨g2, o2 + k * 2, none⟩ = some (.string (sb p.1))), (12, fun w' => w'.cell? ⟨g, o + i, none⟩ = some (.slice (some ⟨g2, o2, none⟩) R xc)), (16, fun w' => w'.cell? ⟨g2, o2 + k * 2 + 1, none⟩ = some (.string (sb p.2)))] wr.drew := Facts.cons_hold d0 (Facts.cons_hold d1 (Facts.cons_hold d0 (Facts.cons_hold d2 (Facts.nil_hold _))))
     refine wpD_region hold (by kernel_rfl) 21 rfl ?_
     (refine K.pl 0 (v := ?_) rfl ?_ ?_; rotate_left; (intro; go_simp; try with_reducible rfl); simp only [K.pu])
     (refine K.pl 1 (v := ?_) rfl ?_ ?_; rotate_left; (intro; go_simp; try with_reducible rfl); simp only [K.pu])
     (refine K.pl 2 (v := ?_) rfl ?_ ?_; rotate_left; (intro; go_simp; try with_reducible rfl); simp only [K.pu])
     (refine K.tk 3 _ rfl K.m0 (v := ?_) ?_ ?_; rotate_left; (intro _ _hw; go_simp; try with_reducible rfl); simp only [K.pu])
     (refine K.pl 4 (v := ?_) rfl ?_ ?_; rotate_left; (intro; go_simp; try with_reducible rfl); simp only [K.pu])
     (refine K.pl 5 (v := ?_) rfl ?_ ?_; rotate_left; (intro; go_simp; try with_reducible rfl); simp only [K.pu])
     (refine K.pl 6 (v := ?_) rfl ?_ ?_; rotate_left; (intro; go_simp; try with_reducible rfl); simp only [K.pu])
     (refine K.tk 7 _ rfl K.m1 (v := ?_) ?_ ?_; rotate_left; (intro _ _hw; go_simp; try with_reducible rfl); simp only [K.pu])
     (refine K.pl 9 (v := ?_) rfl ?_ ?_; rotate_left; (intro; go_simp; try with_reducible rfl); simp only [K.pu])
     (refine K.pl 10 (v := ?_) rfl ?_ ?_; rotate_left; (intro; go_simp; try with_reducible rfl); simp only [K.pu])
     (refine K.pl 11 (v := ?_) rfl ?_ ?_; rotate_left; (intro; go_simp; try with_reducible rfl); simp only [K.pu])
     (refine K.tk 12 _ rfl K.m2 (v := ?_) ?_ ?_; rotate_left; (intro _ _hw; go_simp; try with_reducible rfl); simp only [K.pu])
     (refine K.pl 13 (v := ?_) rfl ?_ ?_; rotate_left; (intro; go_simp; try with_reducible rfl); simp only [K.pu])
     (refine K.pl 14 (v := ?_) rfl ?_ ?_; rotate_left; (intro; go_simp; try with_reducible rfl); simp only [K.pu])
     (refine K.pl 15 (v := ?_) rfl ?_ ?_; rotate_left; (intro; go_simp; try with_reducible rfl); simp only [K.pu])
     (refine K.tk 16 _ rfl K.m3 (v := ?_) ?_ ?_; rotate_left; (intro _ _hw; go_simp; try with_reducible rfl); simp only [K.pu])
     clear hold d0 d1 d2 c0 c1 c2
     refine wpD_join (fun a a' w' => ∃ y : Nat, a' = (((a.put (some 33) (.string (sb (low p.1)))).put (some 42) (.string (sb (fold p.2)))).put (some 43) (.agg #[.string (sb (low p.1)), .string (sb (fold p.2))])).put (some 7) (.pointer (some ⟨y, 0, none⟩)) ∧ Blk w' y 191 [.string ⟨#[]⟩, .string ⟨#[]⟩] ∧ Fr No wr w' ∧ wr.heap.size ≤ y) [(3, fun w' => w'.cell? ⟨g, o + i, none⟩ = some (.slice (some ⟨g2, o2, none⟩) R xc)), (12, fun w' => w'.cell? ⟨g, o + i, none⟩ = some (.slice (some ⟨g2, o2, none⟩) R xc))] 1 ((Array.replicate 21 true).setIfInBounds 20 false) (fun tail => ?_) ?_
     ·refine wpD_two 8 19 [(3, fun w' => w'.cell? ⟨g, o + i, none⟩ = some (.slice (some ⟨g2, o2, none⟩) R xc)), (12, fun w' => w'.cell? ⟨g, o + i, none⟩ = some (.slice (some ⟨g2, o2, none⟩) R xc)), (16, fun w' => w'.cell? ⟨g2, o2 + k * 2 + 1, none⟩ = some (.string (sb p.2)))] [(3, fun w' => w'.cell? ⟨g, o + i, none⟩ = some (.slice (some ⟨g2, o2, none⟩) R xc)), (7, fun w' => w'.cell? ⟨g2, o2 + k * 2, none⟩ = some (.string (sb p.1))), (12, fun w' => w'.cell? ⟨g, o + i, none⟩ = some (.slice (some ⟨g2, o2, none⟩) R xc)), (16, fun w' => w'.cell? ⟨g2, o2 + k * 2 + 1, none⟩ = some (.string (sb p.2)))] rfl rfl (by kernel_rfl) (by kernel_rfl) (by kernel_rfl) (by rfl) (by rfl) ?_ ?_
      ·intro K1 hK1
       refine wp_call (.func 58) _ _ rfl 58 [] rfl (fun vs w => by kernel_rfl) [.string (sb p.1)] (by rfl) ?_
       refine (smallZ_any p.1 (by have := HPB.out; unfold Sz; omega) wr.drew).mono ?_
       rintro e w4 ⟨rfl, fw4⟩
       have HQ4 := hid fw4
       have Hw4 : Hid (Fr No wr.drew w4) := hid (fw4)
       have d0 : w4.cell? ⟨g, o + i, none⟩ = some (.slice (some ⟨g2, o2, none⟩) R xc) := (Hw4.out).cell HD0.out id
       have d1 : w4.cell? ⟨g2, o2 + k * 2, none⟩ = some (.string (sb p.1)) := (Hw4.out).cell HD1.out id
       have d2 : w4.cell? ⟨g2, o2 + k * 2 + 1, none⟩ = some (.string (sb p.2)) := (Hw4.out).cell HD2.out id
       refine ⟨_, rfl, hK1 _ _ (Facts.cons_hold d0 (Facts.cons_hold d0 (Facts.cons_hold d2 (Facts.nil_hold _)))) ?_⟩
       clear hK1 K1 fw4
       simp only [K.pu]
       refine wpD_two 17 19 [(3, fun w' => w'.cell? ⟨g, o + i, none⟩ = some (.slice (some ⟨g2, o2, none⟩) R xc)), (12, fun w' => w'.cell? ⟨g, o + i, none⟩ = some (.slice (some ⟨g2, o2, none⟩) R xc))] [(3, fun w' => w'.cell? ⟨g, o + i, none⟩ = some (.slice (some ⟨g2, o2, none⟩) R xc)), (12, fun w' => w'.cell? ⟨g, o + i, none⟩ = some (.slice (some ⟨g2, o2, none⟩) R xc)), (16, fun w' => w'.cell? ⟨g2, o2 + k * 2 + 1, none⟩ = some (.string (sb p.2)))] rfl rfl (by kernel_rfl) (by kernel_rfl) (by kernel_rfl) (by rfl) (by rfl) ?_ ?_
       ·intro K2 hK2
        refine wp_call (.func 90) _ _ rfl 90 [] rfl (fun vs w => by kernel_rfl) [.string (sb p.2)] (by rfl) ?_
        refine (rfold_any p.2 (by have := HPB.out; omega) w4).mono ?_
        rintro e w5 ⟨rfl, fw5⟩
        have HQ5 := hid fw5
        have Hw5 : Hid (Fr No wr.drew w5) := hid (Hw4.out.trans' fw5)
        have d0 : w5.cell? ⟨g, o + i, none⟩ = some (.slice (some ⟨g2, o2, none⟩) R xc) := (Hw5.out).cell HD0.out id
        have d1 : w5.cell? ⟨g2, o2 + k * 2, none⟩ = some (.string (sb p.1)) := (Hw5.out).cell HD1.out id
        have d2 : w5.cell? ⟨g2, o2 + k * 2 + 1, none⟩ = some (.string (sb p.2)) := (Hw5.out).cell HD2.out id
        refine ⟨_, rfl, hK2 _ _ (Facts.cons_hold d0 (Facts.cons_hold d0 (Facts.nil_hold _))) ?_⟩
        clear hK2 K2 fw5
        simp only [K.pu]
        have hold : Facts.hold [(3, fun w' => w'.cell? ⟨g, o + i, none⟩ = some (.slice (some ⟨g2, o2, none⟩) R xc)), (12, fun w' => w'.cell? ⟨g, o + i, none⟩ = some (.slice (some ⟨g2, o2, none⟩) R xc))] w5 := Facts.cons_hold d0 (Facts.cons_hold d0 (Facts.nil_hold _))
        (refine K.pl 18 (v := (.agg #[.string (sb (low p.1)), .string (sb (fold p.2))])) rfl ?_ ?_; (intro _w; exact exec_bld _ [(0, .tmp 33), (1, .tmp 42)] rfl [(0, .string (sb (low p.1))), (1, .string (sb (fold p.2)))] rfl _ _ (bav _ _ _)); simp only [K.pu])
        clear hold
        refine K.on 19 [(3, fun w' => w'.cell? ⟨g, o + i, none⟩ = some (.slice (some ⟨g2, o2, none⟩) R xc)), (12, fun w' => w'.cell? ⟨g, o + i, none⟩ = some (.slice (some ⟨g2, o2, none⟩) R xc))] rfl (fun K3 hK3 => ?_)
        refine wp_alloc _ rfl _ zeroAv [.string ⟨#[]⟩, .string ⟨#[]⟩] rfl ?_
        intro w6 HY GY TY
        have Hw6 : Hid (Fr No wr.drew w6) := hid (Hw5.out.trans' GY.out)
        have d0 : w6.cell? ⟨g, o + i, none⟩ = some (.slice (some ⟨g2, o2, none⟩) R xc) := (Hw6.out).cell HD0.out id
        have d1 : w6.cell? ⟨g2, o2 + k * 2, none⟩ = some (.string (sb p.1)) := (Hw6.out).cell HD1.out id
        have d2 : w6.cell? ⟨g2, o2 + k * 2 + 1, none⟩ = some (.string (sb p.2)) := (Hw6.out).cell HD2.out id
        refine hK3 _ _ (Facts.cons_hold d0 (Facts.cons_hold d0 (Facts.nil_hold _))) ?_
        clear hK3 K3
        simp only [K.pu]
        exact wpD_cast (by kernel_rfl) (tail _ _ ⟨_, rfl, HY.out, (Fr.refl No wr).drew.trans' Hw6.out, Hw5.out.size⟩ (Facts.cons_hold d0 (Facts.cons_hold d0 (Facts.nil_hold _))))
       ·intro K2 hK2
        refine wp_alloc _ rfl _ zeroAv [.string ⟨#[]⟩, .string ⟨#[]⟩] rfl ?_
        intro w5 HY GY TY
        have Hw5 : Hid (Fr No wr.drew w5) := hid (Hw4.out.trans' GY.out)
        have d0 : w5.cell? ⟨g, o + i, none⟩ = some (.slice (some ⟨g2, o2, none⟩) R xc) := (Hw5.out).cell HD0.out id
        have d1 : w5.cell? ⟨g2, o2 + k * 2, none⟩ = some (.string (sb p.1)) := (Hw5.out).cell HD1.out id
        have d2 : w5.cell? ⟨g2, o2 + k * 2 + 1, none⟩ = some (.string (sb p.2)) := (Hw5.out).cell HD2.out id
        refine hK2 _ _ (Facts.cons_hold d0 (Facts.cons_hold d0 (Facts.cons_hold d2 (Facts.nil_hold _)))) ?_
        clear hK2 K2
        simp only [K.pu]
        refine K.on 17 [(3, fun w' => w'.cell? ⟨g, o + i, none⟩ = some (.slice (some ⟨g2, o2, none⟩) R xc)), (12, fun w' => w'.cell? ⟨g, o + i, none⟩ = some (.slice (some ⟨g2, o2, none⟩) R xc))] rfl (fun K3 hK3 => ?_)
        refine wp_call (.func 90) _ _ rfl 90 [] rfl (fun vs w => by kernel_rfl) [.string (sb p.2)] (by rfl) ?_
        refine (rfold_any p.2 (by have := HPB.out; omega) w5).mono ?_
        rintro e w6 ⟨rfl, fw6⟩
        have HQ6 := hid fw6
        have Hw6 : Hid (Fr No wr.drew w6) := hid (Hw5.out.trans' fw6)
        have d0 : w6.cell? ⟨g, o + i, none⟩ = some (.slice (some ⟨g2, o2, none⟩) R xc) := (Hw6.out).cell HD0.out id
        have d1 : w6.cell? ⟨g2, o2 + k * 2, none⟩ = some (.string (sb p.1)) := (Hw6.out).cell HD1.out id
        have d2 : w6.cell? ⟨g2, o2 + k * 2 + 1, none⟩ = some (.string (sb p.2)) := (Hw6.out).cell HD2.out id
        refine ⟨_, rfl, hK3 _ _ (Facts.cons_hold d0 (Facts.cons_hold d0 (Facts.nil_hold _))) ?_⟩
        clear hK3 K3 fw6
        simp only [K.pu]
        have hold : Facts.hold [(3, fun w' => w'.cell? ⟨g, o + i, none⟩ = some (.slice (some ⟨g2, o2, none⟩) R xc)), (12, fun w' => w'.cell? ⟨g, o + i, none⟩ = some (.slice (some ⟨g2, o2, none⟩) R xc))] w6 := Facts.cons_hold d0 (Facts.cons_hold d0 (Facts.nil_hold _))
        (refine K.pl 18 (v := (.agg #[.string (sb (low p.1)), .string (sb (fold p.2))])) rfl ?_ ?_; (intro _w; exact exec_bld _ [(0, .tmp 33), (1, .tmp 42)] rfl [(0, .string (sb (low p.1))), (1, .string (sb (fold p.2)))] rfl _ _ (bav _ _ _)); simp only [K.pu])
        clear hold
        exact wpD_cast (by kernel_rfl) (tail _ _ ⟨_, rfl, HY.out.fr (show Fr No w5 w6 from HQ6.out) id, (Fr.refl No wr).drew.trans' Hw6.out, Hw4.out.size⟩ (Facts.cons_hold d0 (Facts.cons_hold d0 (Facts.nil_hold _))))
      ·intro K1 hK1
       refine wp_alloc _ rfl _ zeroAv [.string ⟨#[]⟩, .string ⟨#[]⟩] rfl ?_
       intro w4 HY GY TY
       have Hw4 : Hid (Fr No wr.drew w4) := hid (GY.out)
       have d0 : w4.cell? ⟨g, o + i, none⟩ = some (.slice (some ⟨g2, o2, none⟩) R xc) := (Hw4.out).cell HD0.out id
       have d1 : w4.cell? ⟨g2, o2 + k * 2, none⟩ = some (.string (sb p.1)) := (Hw4.out).cell HD1.out id
       have d2 : w4.cell? ⟨g2, o2 + k * 2 + 1, none⟩ = some (.string (sb p.2)) := (Hw4.out).cell HD2.out id
       refine hK1 _ _ (Facts.cons_hold d0 (Facts.cons_hold d1 (Facts.cons_hold d0 (Facts.cons_hold d2 (Facts.nil_hold _))))) ?_
       clear hK1 K1
       simp only [K.pu]
       refine K.on 8 [(3, fun w' => w'.cell? ⟨g, o + i, none⟩ = some (.slice (some ⟨g2, o2, none⟩) R xc)), (12, fun w' => w'.cell? ⟨g, o + i, none⟩ = some (.slice (some ⟨g2, o2, none⟩) R xc)), (16, fun w' => w'.cell? ⟨g2, o2 + k * 2 + 1, none⟩ = some (.string (sb p.2)))] rfl (fun K2 hK2 => ?_)
       refine wp_call (.func 58) _ _ rfl 58 [] rfl (fun vs w => by kernel_rfl) [.string (sb p.1)] (by rfl) ?_
       refine (smallZ_any p.1 (by have := HPB.out; unfold Sz; omega) w4).mono ?_
       rintro e w5 ⟨rfl, fw5⟩
       have HQ5 := hid fw5
       have Hw5 : Hid (Fr No wr.drew w5) := hid (Hw4.out.trans' fw5)
       have d0 : w5.cell? ⟨g, o + i, none⟩ = some (.slice (some ⟨g2, o2, none⟩) R xc) := (Hw5.out).cell HD0.out id
       have d1 : w5.cell? ⟨g2, o2 + k * 2, none⟩ = some (.string (sb p.1)) := (Hw5.out).cell HD1.out id
       have d2 : w5.cell? ⟨g2, o2 + k * 2 + 1, none⟩ = some (.string (sb p.2)) := (Hw5.out).cell HD2.out id
       refine ⟨_, rfl, hK2 _ _ (Facts.cons_hold d0 (Facts.cons_hold d0 (Facts.cons_hold d2 (Facts.nil_hold _)))) ?_⟩
       clear hK2 K2 fw5
       simp only [K.pu]
       refine K.on 17 [(3, fun w' => w'.cell? ⟨g, o + i, none⟩ = some (.slice (some ⟨g2, o2, none⟩) R xc)), (12, fun w' => w'.cell? ⟨g, o + i, none⟩ = some (.slice (some ⟨g2, o2, none⟩) R xc))] rfl (fun K3 hK3 => ?_)
       refine wp_call (.func 90) _ _ rfl 90 [] rfl (fun vs w => by kernel_rfl) [.string (sb p.2)] (by rfl) ?_
       refine (rfold_any p.2 (by have := HPB.out; omega) w5).mono ?_
       rintro e w6 ⟨rfl, fw6⟩
       have HQ6 := hid fw6
       have Hw6 : Hid (Fr No wr.drew w6) := hid (Hw5.out.trans' fw6)
       have d0 : w6.cell? ⟨g, o + i, none⟩ = some (.slice (some ⟨g2, o2, none⟩) R xc) := (Hw6.out).cell HD0.out id
       have d1 : w6.cell? ⟨g2, o2 + k * 2, none⟩ = some (.string (sb p.1)) := (Hw6.out).cell HD1.out id
       have d2 : w6.cell? ⟨g2, o2 + k * 2 + 1, none⟩ = some (.string (sb p.2)) := (Hw6.out).cell HD2.out id
       refine ⟨_, rfl, hK3 _ _ (Facts.cons_hold d0 (Facts.cons_hold d0 (Facts.nil_hold _))) ?_⟩
       clear hK3 K3 fw6
       simp only [K.pu]
       have hold : Facts.hold [(3, fun w' => w'.cell? ⟨g, o + i, none⟩ = some (.slice (some ⟨g2, o2, none⟩) R xc)), (12, fun w' => w'.cell? ⟨g, o + i, none⟩ = some (.slice (some ⟨g2, o2, none⟩) R xc))] w6 := Facts.cons_hold d0 (Facts.cons_hold d0 (Facts.nil_hold _))
       (refine K.pl 18 (v := (.agg #[.string (sb (low p.1)), .string (sb (fold p.2))])) rfl ?_ ?_; (intro _w; exact exec_bld _ [(0, .tmp 33), (1, .tmp 42)] rfl [(0, .string (sb (low p.1))), (1, .string (sb (fold p.2)))] rfl _ _ (bav _ _ _)); simp only [K.pu])
       clear hold
       exact wpD_cast (by kernel_rfl) (tail _ _ ⟨_, rfl, (HY.out.fr HQ5.out id).fr HQ6.out id, (Fr.refl No wr).drew.trans' Hw6.out, Nat.le_refl _⟩ (Facts.cons_hold d0 (Facts.cons_hold d0 (Facts.nil_hold _))))
     rintro a' w' ⟨y, rfl, hy, hfr, hyg⟩ -
     have HY3 := hid hy; have HW3 := hid hfr; have HYG := hid hyg
     clear hy hfr hyg
     simp only [K.pu]
     refine K.on 20 [] rfl (fun K8 hK8 => ?_)
     refine wp_storeB 191 _ _ rfl y 0 [.string (sb (low p.1)), .string (sb (fold p.2))] rfl rfl 191 _ HY3.out (by simp) infoAv (by simp [Value.oneCell']) ?_
     intro w7 HP5 G5 T5
     refine hK8 _ _ (Facts.nil_hold _) ?_
     clear hK8 K8
     simp only [K.pu]
     refine wpD_done (by kernel_rfl) ?_ _
     have HAy : Hid (Blk w7 y 191 [.string (sb (low p.1)), .string (sb (fold p.2))]) := hid HP5.out
     have HF7 : Hid (Fr No wr w7) := hid (HW3.out.trans G5.out (fun e he => .inr (by have he : e = y := he; have := HYG.out; omega)))
     clear HY3 HW3 HP5 G5 T5
     refine Hid.out ?_
     refine hid ?_
     have hb7 := HB.out.no HF7.out
     obtain ⟨acc, hacc⟩ : ∃ acc, srt ((x.take k).map foldA) = acc := ⟨_, rfl⟩
     rw [hacc] at hb7
     have HAL : Hid (acc.length = k) := hid (by rw [← hacc, srt_len, List.length_map, List.length_take, HRR.out]; have := HKR.out; omega)
     have HSD : Hid (Sd acc) := hid (by rw [← hacc]; exact srt_sorted _)
     have HNXT : Hid (srt ((x.take (k + 1)).map foldA) = insR (low p.1, fold p.2) acc) := hid (by
      rw [List.take_add_one, HP.out, Option.toList_some, List.map_append, List.map_cons, List.map_nil, srt_snoc, hacc]
      rfl)
     have HKK : Hid (k ≤ 1000) := hid (by have := HKR.out; have := HRB.out.1; have := HRR.out; omega)
     obtain ⟨ir, hi0', hz0, hs0, hb0⟩ := Go.info_parts infoAvI
     have HIS := hid hi0'; have HZS := hid hz0; have HSS := hid hs0; have HBS := hid hb0
     clear hacc hi0' hz0 hs0 hb0 HB
     rcases hb7 with ⟨he, rfl⟩ | ⟨g3, cap, hne, rfl, hcap, hge, hlt3, hrg⟩
     ·obtain rfl : k = 0 := by rw [← HAL.out, he]; rfl
      have HE0 := hid he
      clear he
      go_wp2_with fail
      go_loopw [8] (fun tv wr => tv = .int .i64 0 ∧ Hid (Fr No w7 wr)) (fun tv _ => 0)
      case atStart => exact ⟨rfl, hid (Fr.refl _ _)⟩
      case round =>
       obtain ⟨rfl, HFC⟩ := hrel
       go_wp2_with fail
       have hold : Facts.hold [] wr.drew := Facts.nil_hold _
       refine wpD_region hold (by kernel_rfl) 13 rfl ?_
       (refine K.pl 0 (v := ?_) rfl ?_ ?_; rotate_left; (intro; go_simp; try with_reducible rfl); simp only [K.pu])
       (refine K.pl 1 (v := ?_) rfl ?_ ?_; rotate_left; (intro; go_simp; try with_reducible rfl); simp only [K.pu])
       (refine K.pl 2 (v := ?_) rfl ?_ ?_; rotate_left; (intro; go_simp; try with_reducible rfl); simp only [K.pu])
       (refine wpD_skip 3 rfl (by kernel_rfl) (by kernel_rfl) (by kernel_rfl) (fun _ _ _ h => h) (by rfl) (by assumption) ?_; simp only [K.pu])
       (refine wpD_skip 4 rfl (by kernel_rfl) (by kernel_rfl) (by kernel_rfl) (fun _ _ _ h => h) (by rfl) (by assumption) ?_; simp only [K.pu])
       (refine wpD_skip 5 rfl (by kernel_rfl) (by kernel_rfl) (by kernel_rfl) (fun _ _ _ h => h) (by rfl) (by assumption) ?_; simp only [K.pu])
       (refine wpD_skip 6 rfl (by kernel_rfl) (by kernel_rfl) (by kernel_rfl) (fun _ _ _ h => h) (by rfl) (by assumption) ?_; simp only [K.pu])
       (refine wpD_skip 7 rfl (by kernel_rfl) (by kernel_rfl) (by kernel_rfl) (fun _ _ _ h => h) (by rfl) (by assumption) ?_; simp only [K.pu])
       (refine wpD_skip 8 rfl (by kernel_rfl) (by kernel_rfl) (by kernel_rfl) (fun _ _ _ h => h) (by rfl) (by assumption) ?_; simp only [K.pu])
       (refine wpD_skip 9 rfl (by kernel_rfl) (by kernel_rfl) (by kernel_rfl) (fun _ _ _ h => h) (by rfl) (by assumption) ?_; simp only [K.pu])
       (refine wpD_skip 10 rfl (by kernel_rfl) (by kernel_rfl) (by kernel_rfl) (fun _ _ _ h => h) (by rfl) (by assumption) ?_; simp only [K.pu])
       (refine wpD_skip 11 rfl (by kernel_rfl) (by kernel_rfl) (by kernel_rfl) (fun _ _ _ h => h) (by rfl) (by assumption) ?_; simp only [K.pu])
       (refine K.pl 12 (v := ?_) rfl ?_ ?_; rotate_left; (intro; go_simp; try with_reducible rfl); simp only [K.pu])
       clear hold
       refine wpD_done (by kernel_rfl) ?_ _
       have HFD : Hid (Fr No w7 wr.drew) := hid (HFC.out.trans' (Fr.refl No wr).drew)
       clear HFC
       generalize wr.drew = wr at HFD ⊢
       have HFC := HFD; clear HFD
       have HTK : Hid (0 ≤ 0) := hid (Nat.le_refl _)
       have HGT : Hid (∀ (j : Nat) b, 0 ≤ j → acc[j]? = some b → ltB (low p.1, fold p.2).1 b.1 = true) := hid (fun j b _ h => by rw [HE0.out] at h; simp at h)
       have HLE : Hid (∀ (j : Nat) b, j < 0 → acc[j]? = some b → ltB (low p.1, fold p.2).1 b.1 = false) := hid (fun j b h _ => by omega)
       have HF1w : Hid (Fr No w1 wr) := hid ((HF2.out.trans' HF7.out).trans' HFC.out)
       go_wp2_with (first
        | ((with_reducible refine K.atO (.buildSlice 175 _ _) ?_); (fail_if_success (have := HB5)); refine wpL_buildNone rfl _ 191 rfl buildAva0 ?_; intro w5 HB5 F5 HS5)
        | ((with_reducible refine K.atO (.call { callee := .builtin .append, args := _, argTypes := _ }) ?_); (fail_if_success (have := HO6)); refine wpL_appendNew rfl _ _ 175 rfl wr.heap.size 191 ir _ 2 32 Tryz.underlying175 HIS.out HZS.out HSS.out HBS.out rfl (by decide) (.slice (some ⟨wr.heap.size, 0, none⟩) 0 0) rfl (HB5.out.own (Nat.le_refl _) rfl (Nat.le_refl _) (by decide) rfl rfl) _ 0 _ (avs (acc.take 0)) rfl (by rw [avs_len, List.length_take, HAL.out, Nat.min_eq_left HTK.out]) (.inl rfl) (avs_one _) (by unfold maxLen; have := HKK.out; have := HTK.out; omega) (by have := HKK.out; have := HTK.out; omega) F5.out.size ?_; intro a6 c6 w6 HO6 HG6 HA6;
                    (have F6 : Hid (Fr No wr w6) := hid (F5.out.trans (frown HG6.out) fun k e => .inr (by have e : some wr.heap.size = some k := e; have := Option.some.inj e; omega))))
        | ((with_reducible refine K.atO (.load 191 _) ?_); refine wpL_load rfl _ _ rfl y 0 rfl [.string (sb (low p.1)), .string (sb (fold p.2))] _ ((HAy.out.fr (HFC.out.trans' F6.out) id).range 0 _ rfl) rfl rfl infoAv ?_)
        | ((with_reducible refine K.atO (.buildSlice 175 _ _) ?_); refine wpL_buildAll rfl 175 191 [.tmp 67] rfl ir _ Tryz.underlying175 HIS.out HZS.out (by rw [HSS.out]; decide) (by rw [HSS.out]; decide) (by decide) [.agg #[.string (sb (low p.1)), .string (sb (fold p.2))]] rfl (by intro v hv; rw [HSS.out, List.mem_singleton.1 hv]; rfl) (avs [(low p.1, fold p.2)]) rfl ?_; intro w7b HB7 F7 HS7)
        | ((with_reducible refine K.atO (.call { callee := .builtin .append, args := _, argTypes := _ }) ?_); (fail_if_success (have := HO8)); refine wpL_append rfl _ _ 175 rfl wr.heap.size 191 ir _ 2 32 Tryz.underlying175 HIS.out HZS.out HSS.out HBS.out rfl (by decide) (.slice a6 0 c6) 0 (avs (acc.take 0)) rfl (own_fr HO6.out F7.out (fun _ _ e => e)) _ 1 1 (avs [(low p.1, fold p.2)]) rfl rfl (.inr ⟨_, rfl, HB7.out.news⟩) (avs_one _) (by unfold maxLen; have := HKK.out; have := HTK.out; omega) (by have := HKK.out; have := HTK.out; omega) (Nat.le_trans F6.out.size F7.out.size) ?_; intro a8 c8 w8 HO8 HG8 HA8;
                    (have F8 : Hid (Fr No wr w8) := hid ((F6.out.trans' F7.out).trans (frown HG8.out) fun k e => .inr (own_ge HO6.out k e).1)))
        | ((with_reducible refine K.atO (.call { callee := .builtin .append, args := _, argTypes := _ }) ?_); refine wpL_append rfl _ _ 175 rfl wr.heap.size 191 ir _ 2 32 Tryz.underlying175 HIS.out HZS.out HSS.out HBS.out rfl (by decide) (.slice a8 (0 + 1) c8) (0 + 1) _ rfl HO8.out _ (0) _ (avs (acc.drop 0)) rfl (by rw [avs_len, List.length_drop, HAL.out]; try omega) (.inl rfl) (avs_one _) (by unfold maxLen; have := HKK.out; have := HTK.out; omega) (by have := HKK.out; have := HTK.out; omega) F8.out.size ?_; intro a9 c9 w9 HO9 HG9 HA9;
                    (have F9 : Hid (Fr No wr w9) := hid (F8.out.trans (frown HG9.out) fun k e => .inr (own_ge HO8.out k e).1))))
       have hins : insR (low p.1, fold p.2) acc = acc.take 0 ++ (low p.1, fold p.2) :: acc.drop 0 := ins_at _ acc 0 (by rw [HAL.out]; exact HTK.out) HGT.out HLE.out
       have hrow : RowB w1.heap.size w9 (.slice a9 (0 + 1 + (0)) c9) (srt ((x.take (0 + 1)).map foldA)) := by
        rw [HNXT.out, hins]
        refine RowB.own (n := 0 + 1 + (0)) (base2 := wr.heap.size) (by have h := HO9.out; rw [show avs (acc.take 0 ++ (low p.1, fold p.2) :: acc.drop 0) = avs (acc.take 0) ++ avs [(low p.1, fold p.2)] ++ avs (acc.drop 0) from avs_mid _ _ _]; exact h) (by rw [List.length_append, List.length_cons, List.length_take, List.length_drop, HAL.out]; have := HTK.out; omega) (by simp) (HF1w.out.size)
       have HROW := hid hrow
       have HFin : Hid (Fr No w1 w9) := hid (HF1w.out.trans' F9.out)
       clear hins hrow
       go_wp2_with fail
       refine ⟨⟨0 + 1, _, by go_num, rfl, HKR.out, hid (by first | exact HROW.out | (have h := HROW.out; rw [Nat.sub_self] at h; exact h)), HFin⟩, ?_⟩
       have := HKR.out
       simp [intOf]; omega
     ·rw [HAL.out] at hcap ⊢
      have HRG := hid hrg; have HCAP := hid hcap
      have hkc : (k : Int) ≤ cap := by omega
      have hki : (k : Int) ≤ 1000 := by have := HKK.out; omega
      have HHH := hid (show w1.heap.size ≤ g3 ∧ g3 < w7.heap.size ∧ acc ≠ [] from ⟨hge, hlt3, hne⟩)
      clear hrg hcap hge hlt3 hne
      go_wp2_with fail
      go_loopw [8] (fun tv wr => ∃ (t : Nat), tv = .int .i64 t ∧ t ≤ k ∧ Hid (∀ (j : Nat) b, t ≤ j → acc[j]? = some b → ltB (low p.1, fold p.2).1 b.1 = true) ∧ Hid (Fr No w7 wr)) (fun tv _ => (intOf tv).toNat)
      case atStart => exact ⟨k, rfl, Nat.le_refl _, hid (fun j b hj hb => by have := (List.getElem?_eq_some_iff.1 hb).1; have := HAL.out; omega), hid (Fr.refl _ _)⟩
      case round =>
       obtain ⟨t, rfl, ht, HGT, HFC⟩ := hrel
       cases t with
       | zero =>
        go_wp2_with fail
        have hold : Facts.hold [] wr.drew := Facts.nil_hold _
        refine wpD_region hold (by kernel_rfl) 13 rfl ?_
        (refine K.pl 0 (v := ?_) rfl ?_ ?_; rotate_left; (intro; go_simp; try with_reducible rfl); simp only [K.pu])
        (refine K.pl 1 (v := ?_) rfl ?_ ?_; rotate_left; (intro; go_simp; try with_reducible rfl); simp only [K.pu])
        (refine K.pl 2 (v := ?_) rfl ?_ ?_; rotate_left; (intro; go_simp; try with_reducible rfl); simp only [K.pu])
        (refine wpD_skip 3 rfl (by kernel_rfl) (by kernel_rfl) (by kernel_rfl) (fun _ _ _ h => h) (by rfl) (by assumption) ?_; simp only [K.pu])
        (refine wpD_skip 4 rfl (by kernel_rfl) (by kernel_rfl) (by kernel_rfl) (fun _ _ _ h => h) (by rfl) (by assumption) ?_; simp only [K.pu])
        (refine wpD_skip 5 rfl (by kernel_rfl) (by kernel_rfl) (by kernel_rfl) (fun _ _ _ h => h) (by rfl) (by assumption) ?_; simp only [K.pu])
        (refine wpD_skip 6 rfl (by kernel_rfl) (by kernel_rfl) (by kernel_rfl) (fun _ _ _ h => h) (by rfl) (by assumption) ?_; simp only [K.pu])
        (refine wpD_skip 7 rfl (by kernel_rfl) (by kernel_rfl) (by kernel_rfl) (fun _ _ _ h => h) (by rfl) (by assumption) ?_; simp only [K.pu])
        (refine wpD_skip 8 rfl (by kernel_rfl) (by kernel_rfl) (by kernel_rfl) (fun _ _ _ h => h) (by rfl) (by assumption) ?_; simp only [K.pu])
        (refine wpD_skip 9 rfl (by kernel_rfl) (by kernel_rfl) (by kernel_rfl) (fun _ _ _ h => h) (by rfl) (by assumption) ?_; simp only [K.pu])
        (refine wpD_skip 10 rfl (by kernel_rfl) (by kernel_rfl) (by kernel_rfl) (fun _ _ _ h => h) (by rfl) (by assumption) ?_; simp only [K.pu])
        (refine wpD_skip 11 rfl (by kernel_rfl) (by kernel_rfl) (by kernel_rfl) (fun _ _ _ h => h) (by rfl) (by assumption) ?_; simp only [K.pu])
        (refine K.pl 12 (v := ?_) rfl ?_ ?_; rotate_left; (intro; go_simp; try with_reducible rfl); simp only [K.pu])
        clear hold
        refine wpD_done (by kernel_rfl) ?_ _
        have HFD : Hid (Fr No w7 wr.drew) := hid (HFC.out.trans' (Fr.refl No wr).drew)
        clear HFC
        generalize wr.drew = wr at HFD ⊢
        have HFC := HFD; clear HFD
        have HF1w : Hid (Fr No w1 wr) := hid ((HF2.out.trans' HF7.out).trans' HFC.out)
        have HTK : Hid (0 ≤ k) := hid (Nat.zero_le _)
        have HLE : Hid (∀ (j : Nat) b, j < 0 → acc[j]? = some b → ltB (low p.1, fold p.2).1 b.1 = false) := hid (fun j b h _ => by omega)
        go_wp2_with (first
         | ((with_reducible refine K.atO (.buildSlice 175 _ _) ?_); (fail_if_success (have := HB5)); refine wpL_buildNone rfl _ 191 rfl buildAva0 ?_; intro w5 HB5 F5 HS5)
         | ((with_reducible refine K.atO (.call { callee := .builtin .append, args := _, argTypes := _ }) ?_); (fail_if_success (have := HO6)); refine wpL_appendNew rfl _ _ 175 rfl wr.heap.size 191 ir _ 2 32 Tryz.underlying175 HIS.out HZS.out HSS.out HBS.out rfl (by decide) (.slice (some ⟨wr.heap.size, 0, none⟩) 0 0) rfl (HB5.out.own (Nat.le_refl _) rfl (Nat.le_refl _) (by decide) rfl rfl) _ 0 _ (avs (acc.take 0)) rfl (by rw [avs_len, List.length_take, HAL.out, Nat.min_eq_left HTK.out]) (.inl rfl) (avs_one _) (by unfold maxLen; have := HKK.out; have := HTK.out; omega) (by have := HKK.out; have := HTK.out; omega) F5.out.size ?_; intro a6 c6 w6 HO6 HG6 HA6;
                      (have F6 : Hid (Fr No wr w6) := hid (F5.out.trans (frown HG6.out) fun k e => .inr (by have e : some wr.heap.size = some k := e; have := Option.some.inj e; omega))))
         | ((with_reducible refine K.atO (.load 191 _) ?_); refine wpL_load rfl _ _ rfl y 0 rfl [.string (sb (low p.1)), .string (sb (fold p.2))] _ ((HAy.out.fr (HFC.out.trans' F6.out) id).range 0 _ rfl) rfl rfl infoAv ?_)
         | ((with_reducible refine K.atO (.buildSlice 175 _ _) ?_); refine wpL_buildAll rfl 175 191 [.tmp 67] rfl ir _ Tryz.underlying175 HIS.out HZS.out (by rw [HSS.out]; decide) (by rw [HSS.out]; decide) (by decide) [.agg #[.string (sb (low p.1)), .string (sb (fold p.2))]] rfl (by intro v hv; rw [HSS.out, List.mem_singleton.1 hv]; rfl) (avs [(low p.1, fold p.2)]) rfl ?_; intro w7b HB7 F7 HS7)
         | ((with_reducible refine K.atO (.call { callee := .builtin .append, args := _, argTypes := _ }) ?_); (fail_if_success (have := HO8)); refine wpL_append rfl _ _ 175 rfl wr.heap.size 191 ir _ 2 32 Tryz.underlying175 HIS.out HZS.out HSS.out HBS.out rfl (by decide) (.slice a6 0 c6) 0 (avs (acc.take 0)) rfl (own_fr HO6.out F7.out (fun _ _ e => e)) _ 1 1 (avs [(low p.1, fold p.2)]) rfl rfl (.inr ⟨_, rfl, HB7.out.news⟩) (avs_one _) (by unfold maxLen; have := HKK.out; have := HTK.out; omega) (by have := HKK.out; have := HTK.out; omega) (Nat.le_trans F6.out.size F7.out.size) ?_; intro a8 c8 w8 HO8 HG8 HA8;
                      (have F8 : Hid (Fr No wr w8) := hid ((F6.out.trans' F7.out).trans (frown HG8.out) fun k e => .inr (own_ge HO6.out k e).1)))
         | ((with_reducible refine K.atO (.call { callee := .builtin .append, args := _, argTypes := _ }) ?_); refine wpL_append rfl _ _ 175 rfl wr.heap.size 191 ir _ 2 32 Tryz.underlying175 HIS.out HZS.out HSS.out HBS.out rfl (by decide) (.slice a8 (0 + 1) c8) (0 + 1) _ rfl HO8.out _ (k) _ (avs (acc.drop 0)) rfl (by rw [avs_len, List.length_drop, HAL.out]; try omega) (.inr ⟨_, rfl, rg_drop ((HFC.out.trans' F8.out).range HRG.out id) 0 (Nat.zero_le _)⟩) (avs_one _) (by unfold maxLen; have := HKK.out; have := HTK.out; omega) (by have := HKK.out; have := HTK.out; omega) F8.out.size ?_; intro a9 c9 w9 HO9 HG9 HA9;
                      (have F9 : Hid (Fr No wr w9) := hid (F8.out.trans (frown HG9.out) fun k e => .inr (own_ge HO8.out k e).1))))
        have hins : insR (low p.1, fold p.2) acc = acc.take 0 ++ (low p.1, fold p.2) :: acc.drop 0 := ins_at _ acc 0 (by rw [HAL.out]; exact HTK.out) HGT.out HLE.out
        have hrow : RowB w1.heap.size w9 (.slice a9 (0 + 1 + (k)) c9) (srt ((x.take (k + 1)).map foldA)) := by
         rw [HNXT.out, hins]
         refine RowB.own (n := 0 + 1 + (k)) (base2 := wr.heap.size) (by have h := HO9.out; rw [show avs (acc.take 0 ++ (low p.1, fold p.2) :: acc.drop 0) = avs (acc.take 0) ++ avs [(low p.1, fold p.2)] ++ avs (acc.drop 0) from avs_mid _ _ _]; exact h) (by rw [List.length_append, List.length_cons, List.length_take, List.length_drop, HAL.out]; have := HTK.out; omega) (by simp) (HF1w.out.size)
        have HROW := hid hrow
        have HFin : Hid (Fr No w1 w9) := hid (HF1w.out.trans' F9.out)
        clear hins hrow
        go_wp2_with fail
        refine ⟨⟨k + 1, _, by go_num, rfl, HKR.out, hid (by first | exact HROW.out | (have h := HROW.out; rw [Nat.sub_self] at h; exact h)), HFin⟩, ?_⟩
        have := HKR.out
        simp [intOf]; omega
       | succ t =>
        obtain ⟨q, hq⟩ : ∃ q, t + 1 = q := ⟨_, rfl⟩
        rw [hq] at ht HGT ⊢
        have hqpos : (0 : Int) < q := by omega
        have hq1 : (q : Int) - 1 = (t : Int) := by omega
        have hqk : (q : Int) ≤ k := by omega
        have hqc : (q : Int) ≤ cap := by omega
        have ht0 : (0 : Int) ≤ t := by omega
        have htk : (t : Int) < k := by omega
        have HWR : Hid (IntKind.i64.wrap (t : Int) = (t : Int)) := hid (by unfold IntKind.wrap; simp [IntKind.signed, IntKind.bits]; omega)
        have HPB1 := hid (show decide ((0 : Int) < (q : Int)) = true from decide_eq_true hqpos)
        have HQT := hid (show t + 1 = q ∧ q ≤ k from ⟨hq, ht⟩)
        obtain ⟨c, hc⟩ : ∃ c, acc[t]? = some c := ⟨_, List.getElem?_eq_getElem (by rw [HAL.out]; omega)⟩
        have c8 : wr.drew.cell? ⟨g3, t * 2, none⟩ = some (.string (sb c.1)) := by
         have := (HFC.out.range HRG.out id) (t * 2) _ (avs_at hc)
         rw [Nat.zero_add] at this
         exact this
        have c10 : wr.drew.cell? ⟨y, 0, none⟩ = some (.string (sb (low p.1))) := (HAy.out.fr HFC.out id).cell 0
        have HC := hid hc
        clear hq ht hc
        go_wp2_with fail
        have hold : Facts.hold [(8, fun w' => w'.cell? ⟨g3, t * 2, none⟩ = some (.string (sb c.1))), (10, fun w' => w'.cell? ⟨y, 0, none⟩ = some (.string (sb (low p.1))))] wr.drew := Facts.cons_hold c8 (Facts.cons_hold c10 (Facts.nil_hold _))
        refine wpD_region hold (by kernel_rfl) 13 rfl ?_
        cases hbb : ltB (low p.1) c.1 with
        | true =>
         have HBB := hid hbb
         clear hbb
         (refine K.pl 0 (v := ?_) rfl ?_ ?_; rotate_left; (intro; go_simp; try with_reducible rfl); simp only [K.pu])
         (refine K.pl 1 (v := (.bool true)) rfl ?_ ?_; (intro _w; exact exec_gtrI _ _ _ _ rfl .i64 q 0 rfl rfl _ HPB1.out _); simp only [K.pu])
         (refine K.pl 2 (v := ?_) rfl ?_ ?_; rotate_left; (intro; go_simp; try with_reducible rfl); simp only [K.pu])
         (refine K.pl 3 (v := ?_) rfl ?_ ?_; rotate_left; (intro; go_simp; try with_reducible rfl); simp only [K.pu])
         (refine K.pl 4 (v := ?_) rfl ?_ ?_; rotate_left; (intro; go_simp; try with_reducible rfl); simp only [K.pu])
         (refine K.pl 5 (v := (.int .i64 (t : Int))) rfl ?_ ?_; (intro _w; go_simp; exact HWR.out); simp only [K.pu])
         (refine K.pl 6 (v := ?_) rfl ?_ ?_; rotate_left; (intro; go_simp; try with_reducible rfl); simp only [K.pu])
         (refine K.pl 7 (v := ?_) rfl ?_ ?_; rotate_left; (intro; go_simp; try with_reducible rfl); simp only [K.pu])
         (refine K.tk 8 _ rfl K.m0 (v := ?_) ?_ ?_; rotate_left; (intro _ _hw; go_simp; try with_reducible rfl); simp only [K.pu])
         (refine K.pl 9 (v := ?_) rfl ?_ ?_; rotate_left; (intro; go_simp; try with_reducible rfl); simp only [K.pu])
         (refine K.tk 10 _ rfl K.m1 (v := ?_) ?_ ?_; rotate_left; (intro _ _hw; go_simp; try with_reducible rfl); simp only [K.pu])
         (refine K.pl 11 (v := (.bool true)) rfl ?_ ?_; (intro _w; exact exec_gtrS _ _ _ rfl c.1 (low p.1) rfl rfl _ HBB.out _); simp only [K.pu])
         (refine K.pl 12 (v := ?_) rfl ?_ ?_; rotate_left; (intro; go_simp; try with_reducible rfl); simp only [K.pu])
         clear hold c8 c10
         refine wpD_done (by kernel_rfl) ?_ _
         have HFD : Hid (Fr No w7 wr.drew) := hid (HFC.out.trans' (Fr.refl No wr).drew)
         go_wp2_with fail
         refine ⟨⟨t, rfl, by have := HQT.out; omega, hid (fun j b hj hb => ?_), HFD⟩, by have := HQT.out; simp [intOf]; omega⟩
         by_cases e : j = t
         ·subst e
          rw [HC.out] at hb
          cases hb
          exact HBB.out
         ·exact HGT.out j b (by have := HQT.out; omega) hb
        | false =>
         have HBB := hid hbb
         clear hbb
         (refine K.pl 0 (v := ?_) rfl ?_ ?_; rotate_left; (intro; go_simp; try with_reducible rfl); simp only [K.pu])
         (refine K.pl 1 (v := (.bool true)) rfl ?_ ?_; (intro _w; exact exec_gtrI _ _ _ _ rfl .i64 q 0 rfl rfl _ HPB1.out _); simp only [K.pu])
         (refine K.pl 2 (v := ?_) rfl ?_ ?_; rotate_left; (intro; go_simp; try with_reducible rfl); simp only [K.pu])
         (refine K.pl 3 (v := ?_) rfl ?_ ?_; rotate_left; (intro; go_simp; try with_reducible rfl); simp only [K.pu])
         (refine K.pl 4 (v := ?_) rfl ?_ ?_; rotate_left; (intro; go_simp; try with_reducible rfl); simp only [K.pu])
         (refine K.pl 5 (v := (.int .i64 (t : Int))) rfl ?_ ?_; (intro _w; go_simp; exact HWR.out); simp only [K.pu])
         (refine K.pl 6 (v := ?_) rfl ?_ ?_; rotate_left; (intro; go_simp; try with_reducible rfl); simp only [K.pu])
         (refine K.pl 7 (v := ?_) rfl ?_ ?_; rotate_left; (intro; go_simp; try with_reducible rfl); simp only [K.pu])
         (refine K.tk 8 _ rfl K.m0 (v := ?_) ?_ ?_; rotate_left; (intro _ _hw; go_simp; try with_reducible rfl); simp only [K.pu])
         (refine K.pl 9 (v := ?_) rfl ?_ ?_; rotate_left; (intro; go_simp; try with_reducible rfl); simp only [K.pu])
         (refine K.tk 10 _ rfl K.m1 (v := ?_) ?_ ?_; rotate_left; (intro _ _hw; go_simp; try with_reducible rfl); simp only [K.pu])
         (refine K.pl 11 (v := (.bool false)) rfl ?_ ?_; (intro _w; exact exec_gtrS _ _ _ rfl c.1 (low p.1) rfl rfl _ HBB.out _); simp only [K.pu])
         (refine K.pl 12 (v := ?_) rfl ?_ ?_; rotate_left; (intro; go_simp; try with_reducible rfl); simp only [K.pu])
         clear c8 c10
         clear hold
         refine wpD_done (by kernel_rfl) ?_ _
         have HFD : Hid (Fr No w7 wr.drew) := hid (HFC.out.trans' (Fr.refl No wr).drew)
         clear HFC
         generalize wr.drew = wr at HFD ⊢
         have HFC := HFD; clear HFD
         have HF1w : Hid (Fr No w1 wr) := hid ((HF2.out.trans' HF7.out).trans' HFC.out)
         have HTK : Hid (q ≤ k) := hid HQT.out.2
         have HLE : Hid (∀ (j : Nat) b, j < q → acc[j]? = some b → ltB (low p.1, fold p.2).1 b.1 = false) := hid (fun j b h hb => sd_le (a := (low p.1, fold p.2)) HSD.out HC.out HBB.out j b (by have := HQT.out; omega) hb)
         by_cases hcq : q = cap
         ·have hkq : q = k := by have := HQT.out.2; have := HCAP.out; omega
          subst hcq
          subst hkq
          go_wp2_with (first
           | ((with_reducible refine K.atO (.buildSlice 175 _ _) ?_); (fail_if_success (have := HB5)); refine wpL_buildNone rfl _ 191 rfl buildAva0 ?_; intro w5 HB5 F5 HS5)
           | ((with_reducible refine K.atO (.call { callee := .builtin .append, args := _, argTypes := _ }) ?_); (fail_if_success (have := HO6)); refine wpL_appendNew rfl _ _ 175 rfl wr.heap.size 191 ir _ 2 32 Tryz.underlying175 HIS.out HZS.out HSS.out HBS.out rfl (by decide) (.slice (some ⟨wr.heap.size, 0, none⟩) 0 0) rfl (HB5.out.own (Nat.le_refl _) rfl (Nat.le_refl _) (by decide) rfl rfl) _ q _ (avs (acc.take q)) rfl (by rw [avs_len, List.length_take, HAL.out, Nat.min_eq_left HTK.out]) (.inr ⟨_, rfl, rg_take ((HFC.out.trans' F5.out).range HRG.out id) q⟩) (avs_one _) (by unfold maxLen; have := HKK.out; have := HTK.out; omega) (by have := HKK.out; have := HTK.out; omega) F5.out.size ?_; intro a6 c6 w6 HO6 HG6 HA6;
                          (have F6 : Hid (Fr No wr w6) := hid (F5.out.trans (frown HG6.out) fun k e => .inr (by have e : some wr.heap.size = some k := e; have := Option.some.inj e; omega))))
           | ((with_reducible refine K.atO (.load 191 _) ?_); refine wpL_load rfl _ _ rfl y 0 rfl [.string (sb (low p.1)), .string (sb (fold p.2))] _ ((HAy.out.fr (HFC.out.trans' F6.out) id).range 0 _ rfl) rfl rfl infoAv ?_)
           | ((with_reducible refine K.atO (.buildSlice 175 _ _) ?_); refine wpL_buildAll rfl 175 191 [.tmp 67] rfl ir _ Tryz.underlying175 HIS.out HZS.out (by rw [HSS.out]; decide) (by rw [HSS.out]; decide) (by decide) [.agg #[.string (sb (low p.1)), .string (sb (fold p.2))]] rfl (by intro v hv; rw [HSS.out, List.mem_singleton.1 hv]; rfl) (avs [(low p.1, fold p.2)]) rfl ?_; intro w7b HB7 F7 HS7)
           | ((with_reducible refine K.atO (.call { callee := .builtin .append, args := _, argTypes := _ }) ?_); (fail_if_success (have := HO8)); refine wpL_append rfl _ _ 175 rfl wr.heap.size 191 ir _ 2 32 Tryz.underlying175 HIS.out HZS.out HSS.out HBS.out rfl (by decide) (.slice a6 q c6) q (avs (acc.take q)) rfl (own_fr HO6.out F7.out (fun _ _ e => e)) _ 1 1 (avs [(low p.1, fold p.2)]) rfl rfl (.inr ⟨_, rfl, HB7.out.news⟩) (avs_one _) (by unfold maxLen; have := HKK.out; have := HTK.out; omega) (by have := HKK.out; have := HTK.out; omega) (Nat.le_trans F6.out.size F7.out.size) ?_; intro a8 c8 w8 HO8 HG8 HA8;
                          (have F8 : Hid (Fr No wr w8) := hid ((F6.out.trans' F7.out).trans (frown HG8.out) fun k e => .inr (own_ge HO6.out k e).1)))
           | ((with_reducible refine K.atO (.call { callee := .builtin .append, args := _, argTypes := _ }) ?_); refine wpL_append rfl _ _ 175 rfl wr.heap.size 191 ir _ 2 32 Tryz.underlying175 HIS.out HZS.out HSS.out HBS.out rfl (by decide) (.slice a8 (q + 1) c8) (q + 1) _ rfl HO8.out _ (q - q) _ (avs (acc.drop q)) (by first | rfl | (rw [Nat.sub_self]; rfl) | simp) (by rw [avs_len, List.length_drop, HAL.out]; try omega) (.inl (Nat.sub_self _)) (avs_one _) (by unfold maxLen; have := HKK.out; have := HTK.out; omega) (by have := HKK.out; have := HTK.out; omega) F8.out.size ?_; intro a9 c9 w9 HO9 HG9 HA9;
                          (have F9 : Hid (Fr No wr w9) := hid (F8.out.trans (frown HG9.out) fun k e => .inr (own_ge HO8.out k e).1))))
          have hins : insR (low p.1, fold p.2) acc = acc.take q ++ (low p.1, fold p.2) :: acc.drop q := ins_at _ acc q (by rw [HAL.out]; exact HTK.out) HGT.out HLE.out
          have hrow : RowB w1.heap.size w9 (.slice a9 (q + 1 + (q - q)) c9) (srt ((x.take (q + 1)).map foldA)) := by
           rw [HNXT.out, hins]
           refine RowB.own (n := q + 1 + (q - q)) (base2 := wr.heap.size) (by have h := HO9.out; rw [show avs (acc.take q ++ (low p.1, fold p.2) :: acc.drop q) = avs (acc.take q) ++ avs [(low p.1, fold p.2)] ++ avs (acc.drop q) from avs_mid _ _ _]; exact h) (by rw [List.length_append, List.length_cons, List.length_take, List.length_drop, HAL.out]; have := HTK.out; omega) (by simp) (HF1w.out.size)
          have HROW := hid hrow
          have HFin : Hid (Fr No w1 w9) := hid (HF1w.out.trans' F9.out)
          clear hins hrow
          go_wp2_with fail
          refine ⟨⟨q + 1, _, by go_num, rfl, HKR.out, hid (by first | exact HROW.out | (have h := HROW.out; rw [Nat.sub_self] at h; exact h)), HFin⟩, ?_⟩
          have := HKR.out
          simp [intOf]; omega
         ·have hcq1 : ¬ (cap - q = 0) := by have := HQT.out.2; have := HCAP.out; omega
          have hcq2 : ¬ ((cap : Int) - q = 0) := by have := HQT.out.2; have := HCAP.out; omega
          have hcq3 : ¬ (q = cap) := hcq
          have hcq4 : ¬ ((q : Int) = cap) := by omega
          go_wp2_with (first
           | ((with_reducible refine K.atO (.buildSlice 175 _ _) ?_); (fail_if_success (have := HB5)); refine wpL_buildNone rfl _ 191 rfl buildAva0 ?_; intro w5 HB5 F5 HS5)
           | ((with_reducible refine K.atO (.call { callee := .builtin .append, args := _, argTypes := _ }) ?_); (fail_if_success (have := HO6)); refine wpL_appendNew rfl _ _ 175 rfl wr.heap.size 191 ir _ 2 32 Tryz.underlying175 HIS.out HZS.out HSS.out HBS.out rfl (by decide) (.slice (some ⟨wr.heap.size, 0, none⟩) 0 0) rfl (HB5.out.own (Nat.le_refl _) rfl (Nat.le_refl _) (by decide) rfl rfl) _ q _ (avs (acc.take q)) rfl (by rw [avs_len, List.length_take, HAL.out, Nat.min_eq_left HTK.out]) (.inr ⟨_, rfl, rg_take ((HFC.out.trans' F5.out).range HRG.out id) q⟩) (avs_one _) (by unfold maxLen; have := HKK.out; have := HTK.out; omega) (by have := HKK.out; have := HTK.out; omega) F5.out.size ?_; intro a6 c6 w6 HO6 HG6 HA6;
                          (have F6 : Hid (Fr No wr w6) := hid (F5.out.trans (frown HG6.out) fun k e => .inr (by have e : some wr.heap.size = some k := e; have := Option.some.inj e; omega))))
           | ((with_reducible refine K.atO (.load 191 _) ?_); refine wpL_load rfl _ _ rfl y 0 rfl [.string (sb (low p.1)), .string (sb (fold p.2))] _ ((HAy.out.fr (HFC.out.trans' F6.out) id).range 0 _ rfl) rfl rfl infoAv ?_)
           | ((with_reducible refine K.atO (.buildSlice 175 _ _) ?_); refine wpL_buildAll rfl 175 191 [.tmp 67] rfl ir _ Tryz.underlying175 HIS.out HZS.out (by rw [HSS.out]; decide) (by rw [HSS.out]; decide) (by decide) [.agg #[.string (sb (low p.1)), .string (sb (fold p.2))]] rfl (by intro v hv; rw [HSS.out, List.mem_singleton.1 hv]; rfl) (avs [(low p.1, fold p.2)]) rfl ?_; intro w7b HB7 F7 HS7)
           | ((with_reducible refine K.atO (.call { callee := .builtin .append, args := _, argTypes := _ }) ?_); (fail_if_success (have := HO8)); refine wpL_append rfl _ _ 175 rfl wr.heap.size 191 ir _ 2 32 Tryz.underlying175 HIS.out HZS.out HSS.out HBS.out rfl (by decide) (.slice a6 q c6) q (avs (acc.take q)) rfl (own_fr HO6.out F7.out (fun _ _ e => e)) _ 1 1 (avs [(low p.1, fold p.2)]) rfl rfl (.inr ⟨_, rfl, HB7.out.news⟩) (avs_one _) (by unfold maxLen; have := HKK.out; have := HTK.out; omega) (by have := HKK.out; have := HTK.out; omega) (Nat.le_trans F6.out.size F7.out.size) ?_; intro a8 c8 w8 HO8 HG8 HA8;
                          (have F8 : Hid (Fr No wr w8) := hid ((F6.out.trans' F7.out).trans (frown HG8.out) fun k e => .inr (own_ge HO6.out k e).1)))
           | ((with_reducible refine K.atO (.call { callee := .builtin .append, args := _, argTypes := _ }) ?_); refine wpL_append rfl _ _ 175 rfl wr.heap.size 191 ir _ 2 32 Tryz.underlying175 HIS.out HZS.out HSS.out HBS.out rfl (by decide) (.slice a8 (q + 1) c8) (q + 1) _ rfl HO8.out _ (k - q) _ (avs (acc.drop q)) rfl (by rw [avs_len, List.length_drop, HAL.out]; try omega) (.inr ⟨_, rfl, rg_drop ((HFC.out.trans' F8.out).range HRG.out id) q (by rw [HAL.out]; exact HTK.out)⟩) (avs_one _) (by unfold maxLen; have := HKK.out; have := HTK.out; omega) (by have := HKK.out; have := HTK.out; omega) F8.out.size ?_; intro a9 c9 w9 HO9 HG9 HA9;
                          (have F9 : Hid (Fr No wr w9) := hid (F8.out.trans (frown HG9.out) fun k e => .inr (own_ge HO8.out k e).1))))
          have hins : insR (low p.1, fold p.2) acc = acc.take q ++ (low p.1, fold p.2) :: acc.drop q := ins_at _ acc q (by rw [HAL.out]; exact HTK.out) HGT.out HLE.out
          have hrow : RowB w1.heap.size w9 (.slice a9 (q + 1 + (k - q)) c9) (srt ((x.take (k + 1)).map foldA)) := by
           rw [HNXT.out, hins]
           refine RowB.own (n := q + 1 + (k - q)) (base2 := wr.heap.size) (by have h := HO9.out; rw [show avs (acc.take q ++ (low p.1, fold p.2) :: acc.drop q) = avs (acc.take q) ++ avs [(low p.1, fold p.2)] ++ avs (acc.drop q) from avs_mid _ _ _]; exact h) (by rw [List.length_append, List.length_cons, List.length_take, List.length_drop, HAL.out]; have := HTK.out; omega) (by simp) (HF1w.out.size)
          have HROW := hid hrow
          have HFin : Hid (Fr No w1 w9) := hid (HF1w.out.trans' F9.out)
          clear hins hrow
          go_wp2_with fail
          refine ⟨⟨k + 1, _, by go_num, rfl, HKR.out, hid (by first | exact HROW.out | (have h := HROW.out; rw [Nat.sub_self] at h; exact h)), HFin⟩, ?_⟩
          have := HKR.out
          simp [intOf]; omega
    ·obtain rfl : k = R := by omega
     have hb : RowB w1.heap.size wr b (normR x) := by
      have h := HB.out
      rw [List.take_of_length_le (by rw [HRR.out]; exact Nat.le_refl _)] at h
      exact h
     have hnl : (normR x).length = k := by unfold normR; rw [srt_len, List.length_map]; exact HRR.out
     obtain ⟨ba, bc, rfl⟩ := hb.form
     have HRd : Hid (RdIn (fun j => w1.heap.size ≤ j) wr (.slice ba (normR x).length bc) (normR x)) := hid (hb.rd (fun a ha => by
      unfold normR at ha
      rw [srt_mem] at ha
      obtain ⟨y, hy, rfl⟩ := List.mem_map.1 ha
      have h1 := HRB.out.2 y hy
      have h2 := fold_len y.2
      exact ⟨by show (low y.1).length ≤ _; rw [low_length]; omega, by show (fold y.2).length ≤ _; omega⟩) (by rw [hnl]; omega))
     have HR4 := hid (HR.out.1.fr HF2.out)
     have HNO4 := hid (HNO.out.no HF2.out)
     clear hb
     rw [hnl] at HRd ⊢
     have HNL := hid hnl
     clear hnl
     go_wp2_with (first
      | ((with_reducible refine K.atO (.buildSlice 128 _ _) ?_); refine wpL_app1o rfl rfl _ _ _ 128 175 rfl rfl Tryz.underlying128 infoRdn rfl (by decide) (by decide) HNO4.out (.slice ba k bc) [.slice ba k bc] rfl rfl rfl (by simp [Value.oneCell']) (fun _ => rfl) (fun _ => rfl) (by omega) (by omega) ?_; intro q6 a6 c6 w6 HO6 HF6 HW6))
     have HR6 : Hid (Rs w w6 (.slice a6 (i + 1) c6) (.slice none 0 0) (norm (n.take i) ++ [normR x]) [] (vs ++ [.slice ba k bc])) := hid (HR4.out.add (HRd.out.mono fun j hj => ⟨Nat.le_trans HNO.out.fr.size hj, fun e => by have := (HNO.out.ge j e).2; omega⟩) (by rw [HLEN.out]; exact HO6.out) HF6.out HW6.out (by rw [HLEN.out]; exact HR.out.2))
     refine ⟨⟨i + 1, _, by go_num, HLT.out, hid ⟨by rw [HNX.out]; exact HR6.out, by have := HR.out.2; simp [this]⟩⟩, ?_⟩
     have := HLT.out
     simp [intOf]; omega
  ·obtain rfl : i = N := by omega
   have hall : n.take i = n := by rw [← HN.out, List.take_length]
   rw [hall] at HR
   have hv := HR.out.1.name (by rw [norm_length, HN.out]; exact HR.out.2) (by rw [norm_length, HN.out]; omega)
   have HV := hid hv
   obtain ⟨va, vc, rfl, -, -⟩ := Sl.form hv
   have HFR := hid HR.out.1.no.fr
   clear hall hv hi hlt
   go_wp2_with fail
   go_ret
   exact ⟨_, rfl, HV.out, HFR.out⟩
end Go.Proofs.YtgbiicipkbpmeaaGreatDoor.FT
