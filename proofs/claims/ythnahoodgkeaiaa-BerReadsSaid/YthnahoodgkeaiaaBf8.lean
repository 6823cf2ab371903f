/-
  The document's Same, of two elements with the same data.
-/
import Derived.Test.YthnahoodgkeaiaaBeT
set_option linter.unusedVariables false
set_option linter.unusedSimpArgs false
namespace Go.Proofs.Ythnahoodgkeaiaa.BE
set_option maxRecDepth 100000
open Go.RowKit K

set_option maxHeartbeats 8000000 in
theorem same_any : ∀ (M M2 N : Nat) (n : Nd) (cs ds : List Value) (w : World), NdAt M (Lo N) w n cs → NdAt M2 (Lo N) w n ds → N ≤ w.heap.size → Calls Try.prog 17 #[.agg cs.toArray, .agg ds.toArray] w fun e w' => e = .returned (.bool true) ∧ Fr No w w' := by
  intro M
  induction M with
  | zero => intro M2 N n cs ds w h; exact h.elim
  | succ M ih =>
    intro M2 N n cs ds w hn hm hN
    obtain ⟨a, sc, hcs, htg, hbl, hkl⟩ := hn.head
    obtain ⟨a2, sc2, hds, -, -, -⟩ := hm.head
    obtain ⟨M2, rfl⟩ := hm.succ
    have HN := hid hn; have HM := hid hm; have HIH := hid ih; have HNN := hid hN
    obtain ⟨tg, htge⟩ : ∃ tg, n.tag = tg := ⟨_, rfl⟩
    obtain ⟨bs, hbse⟩ : ∃ bs, sb n.body = bs := ⟨_, rfl⟩
    obtain ⟨kl, hkle⟩ : ∃ kl, n.kids.length = kl := ⟨_, rfl⟩
    have HK := hid hkle
    rw [htge, hbse, hkle] at hcs hds
    rw [hkle] at hkl
    subst hcs; subst hds
    clear hn hm ih hN htg hbl htge hbse hkle
    have hkli : (kl : Int) ≤ 140737488351232 := by omega
    go_enter Try.func17, Try.ntmps17
    go_wp2_with (first
      | ((with_reducible show wpList _ _ _ (⟨_, .box 24 _, _, _, _, _⟩ :: _) _ _); (fail_if_success (have := HB1)); refine wpL_box rfl _ _ rfl _ rfl [.int .i64 tg, .string bs, .slice a kl sc] rfl ?_; intro w1 HB1 F1 HS1)
      | ((with_reducible show wpList _ _ _ (⟨_, .box 24 _, _, _, _, _⟩ :: _) _ _); refine wpL_box rfl _ _ rfl _ rfl [.int .i64 tg, .string bs, .slice a2 kl sc2] rfl ?_; intro w2 HB2 F2 HS2;
          have hb1 := HB1.out.fr F2.out id;
          have HB1' := hid hb1;
          have c0 : w2.cell? ⟨w.heap.size, 0, none⟩ = some (.int .i64 tg) := hb1.cell 0;
          have c1 : w2.cell? ⟨w.heap.size, 1, none⟩ = some (.string bs) := hb1.cell 1;
          have c2 : w2.cell? ⟨w.heap.size, 2, none⟩ = some (.slice a kl sc) := hb1.cell 2;
          have d0 : w2.cell? ⟨w1.heap.size, 0, none⟩ = some (.int .i64 tg) := HB2.out.cell 0;
          have d1 : w2.cell? ⟨w1.heap.size, 1, none⟩ = some (.string bs) := HB2.out.cell 1;
          have d2 : w2.cell? ⟨w1.heap.size, 2, none⟩ = some (.slice a2 kl sc2) := HB2.out.cell 2; clear hb1))
    have HF12 := hid (F1.out.trans' F2.out)
    go_loopw [5] (fun iv wr => ∃ k : Nat, iv = .int .i64 k ∧ k ≤ kl ∧ Hid (Fr No w2 wr)) (fun iv _ => kl - (intOf iv).toNat)
    case atStart => exact ⟨0, rfl, Nat.zero_le _, hid (Fr.refl _ _)⟩
    case round =>
      obtain ⟨k, rfl, hk, HF⟩ := hrel
      have e2 : wr.cell? ⟨w.heap.size, 2, none⟩ = some (.slice a kl sc) := HF.out.cell c2 id
      have f2 : wr.cell? ⟨w1.heap.size, 2, none⟩ = some (.slice a2 kl sc2) := HF.out.cell d2 id
      by_cases hlt : k < kl
      · have hlti : (k : Int) < kl := by omega
        obtain ⟨x, hx⟩ : ∃ x, n.kids[k]? = some x := ⟨_, List.getElem?_eq_getElem (by rw [HK.out]; exact hlt)⟩
        have hfr := HF12.out.trans' HF.out
        obtain ⟨g, o, cp, c, he, hr, hcl, hxa⟩ := (HN.out.no hfr).kid hx
        obtain ⟨g2, o2, cp2, d, he2, hr2, hdl, hxd⟩ := (HM.out.no hfr).kid hx
        simp only [List.cons.injEq, Value.slice.injEq, and_true, true_and] at he he2
        obtain ⟨ha, -⟩ := he.2.2
        obtain ⟨ha2, -⟩ := he2.2.2
        subst ha; subst ha2
        have HXA := hid hxa; have HXD := hid hxd; have HFR := hid hfr
        clear hx hxa hxd he he2 hfr
        have hi3 : (Try.prog.info? 24).map (·.size) = some c.length := by rw [hcl]; exact infoN
        have hi4 : (Try.prog.info? 24).map (·.size) = some d.length := by rw [hdl]; exact infoN
        have HI3 := hid hi3; have HI4 := hid hi4
        clear hi3 hi4 hcl hdl
        have hkk : (0 : Int) ≤ (k : Int) ∧ (k : Int) < (kl : Int) := ⟨by omega, hlti⟩
        go_wp2_with fail
        have hold : Facts.hold [(1, fun w' => w'.cell? ⟨w.heap.size, 2, none⟩ = some (.slice (some ⟨g, o, none⟩) kl sc)), (6, fun w' => w'.cell? ⟨w1.heap.size, 2, none⟩ = some (.slice (some ⟨g2, o2, none⟩) kl sc2)), (4, fun w' => w'.rangeAt g (o + k * 3) c), (9, fun w' => w'.rangeAt g2 (o2 + k * 3) d)] wr.drew := Facts.cons_hold e2 (Facts.cons_hold f2 (Facts.cons_hold hr (Facts.cons_hold hr2 (Facts.nil_hold _))))
        refine wpD_region hold (by kernel_rfl) 12 rfl ?_
        (refine wpD_plain 0 (v := ?_) rfl (by kernel_rfl) (by kernel_rfl) (by kernel_rfl) (fun _ _ _ h => h) (by rfl) ?_ (by assumption) ?_; rotate_left; (intro _w; go_simp; try with_reducible rfl); simp only [Act.put, List.setIfInBounds_toArray, List.set_cons_zero, List.set_cons_succ])
        (refine wpD_take 1 _ rfl (by kernel_rfl) (by kernel_rfl) (by kernel_rfl) (fun _ _ _ h => h) List.mem_cons_self (by rfl) (v := ?_) ?_ (by assumption) ?_; rotate_left; (intro _w _hw; go_simp; try with_reducible rfl); simp only [Act.put, List.setIfInBounds_toArray, List.set_cons_zero, List.set_cons_succ])
        (refine wpD_plain 2 (v := ?_) rfl (by kernel_rfl) (by kernel_rfl) (by kernel_rfl) (fun _ _ _ h => h) (by rfl) ?_ (by assumption) ?_; rotate_left; (intro _w; go_simp; try with_reducible rfl); simp only [Act.put, List.setIfInBounds_toArray, List.set_cons_zero, List.set_cons_succ])
        (refine wpD_plain 3 (v := ?_) rfl (by kernel_rfl) (by kernel_rfl) (by kernel_rfl) (fun _ _ _ h => h) (by rfl) ?_ (by assumption) ?_; rotate_left; (intro _w; go_simp; try with_reducible rfl); simp only [Act.put, List.setIfInBounds_toArray, List.set_cons_zero, List.set_cons_succ])
        (refine wpD_take 4 _ rfl (by kernel_rfl) (by kernel_rfl) (by kernel_rfl) (fun _ _ _ h => h) (List.mem_cons_of_mem _ (List.mem_cons_of_mem _ List.mem_cons_self)) (by rfl) (exec_load _ _ rfl g (o + k * 3) rfl _ _ rfl rfl HI3.out) (by assumption) ?_; simp only [Act.put, List.setIfInBounds_toArray, List.set_cons_zero, List.set_cons_succ])
        (refine wpD_plain 5 (v := ?_) rfl (by kernel_rfl) (by kernel_rfl) (by kernel_rfl) (fun _ _ _ h => h) (by rfl) ?_ (by assumption) ?_; rotate_left; (intro _w; go_simp; try with_reducible rfl); simp only [Act.put, List.setIfInBounds_toArray, List.set_cons_zero, List.set_cons_succ])
        (refine wpD_take 6 _ rfl (by kernel_rfl) (by kernel_rfl) (by kernel_rfl) (fun _ _ _ h => h) (List.mem_cons_of_mem _ List.mem_cons_self) (by rfl) (v := ?_) ?_ (by assumption) ?_; rotate_left; (intro _w _hw; go_simp; try with_reducible rfl); simp only [Act.put, List.setIfInBounds_toArray, List.set_cons_zero, List.set_cons_succ])
        (refine wpD_plain 7 (v := ?_) rfl (by kernel_rfl) (by kernel_rfl) (by kernel_rfl) (fun _ _ _ h => h) (by rfl) ?_ (by assumption) ?_; rotate_left; (intro _w; go_simp; try with_reducible rfl); simp only [Act.put, List.setIfInBounds_toArray, List.set_cons_zero, List.set_cons_succ])
        (refine wpD_plain 8 (v := ?_) rfl (by kernel_rfl) (by kernel_rfl) (by kernel_rfl) (fun _ _ _ h => h) (by rfl) ?_ (by assumption) ?_; rotate_left; (intro _w; go_simp; try with_reducible rfl); simp only [Act.put, List.setIfInBounds_toArray, List.set_cons_zero, List.set_cons_succ])
        (refine wpD_take 9 _ rfl (by kernel_rfl) (by kernel_rfl) (by kernel_rfl) (fun _ _ _ h => h) (List.mem_cons_of_mem _ (List.mem_cons_of_mem _ (List.mem_cons_of_mem _ List.mem_cons_self))) (by rfl) (exec_load _ _ rfl g2 (o2 + k * 3) rfl _ _ rfl rfl HI4.out) (by assumption) ?_; simp only [Act.put, List.setIfInBounds_toArray, List.set_cons_zero, List.set_cons_succ])
        clear hold
        refine wpD_only 10 [(1, fun w' => w'.cell? ⟨w.heap.size, 2, none⟩ = some (.slice (some ⟨g, o, none⟩) kl sc)), (6, fun w' => w'.cell? ⟨w1.heap.size, 2, none⟩ = some (.slice (some ⟨g2, o2, none⟩) kl sc2))] rfl (by kernel_rfl) (by kernel_rfl) (by rfl) (fun K10 hK10 => ?_)
        refine wp_call (.func 17) _ _ rfl 17 [] rfl (fun vs w => by kernel_rfl) [.agg c.toArray, .agg d.toArray] (by rfl) ?_
        refine (HIH.out M2 N x c d wr.drew (HXA.out.no (Fr.refl No wr).drew) (HXD.out.no (Fr.refl No wr).drew) (Nat.le_trans HNN.out HFR.out.size)).mono ?_
        rintro e w4 ⟨rfl, f4⟩
        have hf4 : Fr No wr w4 := (Fr.refl No wr).drew.trans' f4
        have hold : Facts.hold [(1, fun w' => w'.cell? ⟨w.heap.size, 2, none⟩ = some (.slice (some ⟨g, o, none⟩) kl sc)), (6, fun w' => w'.cell? ⟨w1.heap.size, 2, none⟩ = some (.slice (some ⟨g2, o2, none⟩) kl sc2))] w4 := Facts.cons_hold (hf4.cell e2 id) (Facts.cons_hold (hf4.cell f2 id) (Facts.nil_hold _))
        refine ⟨_, rfl, hK10 _ _ hold ?_⟩
        have HF4 := hid (HF.out.trans' hf4)
        clear hK10 K10 f4 hf4 e2 f2
        simp only [Act.put, List.setIfInBounds_toArray, List.set_cons_zero, List.set_cons_succ]
        (refine wpD_plain 11 (v := ?_) rfl (by kernel_rfl) (by kernel_rfl) (by kernel_rfl) (fun _ _ _ h => h) (by rfl) ?_ (by assumption) ?_; rotate_left; (intro _w; go_simp; try with_reducible rfl); simp only [Act.put, List.setIfInBounds_toArray, List.set_cons_zero, List.set_cons_succ])
        clear hold
        refine wpD_done (by kernel_rfl) ?_ _
        go_wp2_with fail
        go_roundw
        case rel => exact ⟨k + 1, by go_num, by omega, HF4⟩
        case measure => simp [intOf]; omega
      · obtain rfl : k = kl := by omega
        go_wp2_with fail
        go_ret
        exact ⟨rfl, HF12.out.trans' HF.out⟩
end Go.Proofs.Ythnahoodgkeaiaa.BE
