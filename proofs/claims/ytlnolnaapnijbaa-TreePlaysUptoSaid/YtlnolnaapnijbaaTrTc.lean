/-
  The tree: Delete.
-/
import Derived.Test.YtlnolnaapnijbaaTrTb
namespace Go.Proofs.Ytlnolnaapnijbaa.TR
set_option maxRecDepth 100000
open Go.RowKit K

set_option maxHeartbeats 8000000 in
theorem tdel_any (w : World) (T : TD) (l : L) (key : S) (h : TrAt w T l) (hn : l.length ≤ 4398046511104) : Calls Try.prog 44 #[T.v, .string key] w (TPost w T (has key l) (del key l)) := by
  obtain ⟨d, t, b⟩ := T
  have H := hid h
  have hsz := h.size hn
  have HSZ : Hid ((d = 0 ∨ 2 ≤ t.l.length) ∧ t.l.length ≤ 65536) := hid hsz
  have HD : Hid (d ≤ 13) := hid (h.d_le hn)
  have HRGw : Hid (w.rangeAt b 0 (ptr d t)) := hid h.rg
  have HN := hid hn
  clear h hsz hn
  show Calls Try.prog _ #[.pointer (some ⟨b, 0, none⟩), .string key] w _
  go_enter Try.func44, Try.ntmps44
  go_wp2_with ((with_reducible show wpList _ _ _ ({ dst := _, op := .load 103 _, type := _, pos := _, after := _, guard := _ } :: _) _ _); refine wpL_load rfl _ _ rfl b 0 rfl (ptr d t) _ HRGw.out rfl rfl (by rw [ptr_length]; exact info_p) ?_)
  refine (rem_any d w t ⟨#[]⟩ none key H.out.rep H.out.ok H.out.good HSZ.out.1 (lt_empty _) trivial (by have := HSZ.out.2; omega)).mono ?_
  rintro e w2 ⟨t', rfl, ht, hok, hgd, hfl, hs1, hs2⟩
  have hfe : flat d t = l := H.out.fl
  rw [hfe] at hfl ⊢
  clear hfe
  have HT := hid ht; have HO := hid hok; have HG := hid hgd; have HFL := hid hfl
  have HPT : Hid (ptr d t' = ptr d t) := hid (ptr_b ht.b)
  have HS := hid (And.intro hs1 hs2)
  have hoff : ¬ fp d t b := H.out.off
  have HB2 : Hid (Blk w2 b 105 (ptr d t ++ [.int .i64 l.length])) := hid (H.out.blk.fr ht.fr hoff)
  have HFR : Hid (Fr (TD.fp ⟨d, t, b⟩) w w2) := hid (ht.fr.mono fun g hg => .inr hg)
  have HGR : Hid (∀ g, fp d t' g → TD.fp ⟨d, t, b⟩ g ∨ w.heap.size ≤ g) := hid (fun g hg => (ht.grow g hg).imp .inr id)
  have HOF : Hid (¬ fp d t' b) := hid (fun e => (ht.grow _ e).elim hoff (fun e => by have : b < w.heap.size := H.out.blk.lt; omega))
  clear ht hok hgd hfl hs1 hs2 hoff
  cases hh : has key l with
  | false =>
    have HL : Hid ((del key l).length = l.length) := hid (by have := del_length key l; rw [hh] at this; simpa using this)
    go_wp2
    go_ret
    refine ⟨by first | rfl | (rw [hh]; rfl), ⟨d, t', b⟩, rfl, ⟨?_, HT.out.rep, HO.out, HG.out, HFL.out, ?_, ?_, HOF.out⟩, HFR.out, fun g hg => hg.elim (fun e => .inl (.inl e)) (HGR.out g)⟩
    · rw [HL.out]; show Blk _ _ _ (ptr d t' ++ _); rw [HPT.out]; exact HB2.out
    · rw [HL.out]; exact H.out.cap
    · rw [HL.out]; exact H.out.low
  | true =>
    obtain ⟨m, hm⟩ : ∃ m, (del key l).length = m := ⟨_, rfl⟩
    have hlm : l.length = m + 1 := by have := del_length key l; rw [hh, hm] at this; simpa using this.symm
    have HM := hid hm; have HLM := hid hlm
    have hni : (m : Int) ≤ 4398046511104 := by have := HN.out; omega
    have c2 : w2.cell? ⟨b, 2, none⟩ = some (.int .i64 ((m : Int) + 1)) := by
      rw [HB2.out.cell 2, List.getElem?_append_right (by rw [ptr_length]; exact Nat.le_refl _), ptr_length, hlm]; rfl
    clear hm hlm
    go_wp2_with ((with_reducible show wpList _ _ _ ({ dst := _, op := .store 3 _ _, type := _, pos := _, after := _, guard := _ } :: _) _ _); refine wpL_storeV rfl _ _ _ rfl b 2 (.int .i64 (m : Int)) [.int .i64 (m : Int)] rfl (by go_num) rfl _ _ HB2.out (by simp [ptr_length]) info_i64 (by intro u hu; simp at hu; subst hu; rfl) ?_; intro w3 HB3 F3 HS3)
    clear c2
    have HB3' : Hid (Blk w3 b 105 (ptr d t' ++ [.int .i64 (m : Int)])) := hid (by have := HB3.out; rwa [spl_len, ← HPT.out] at this)
    have HR3 : Hid (Rep w3 d t') := hid (HT.out.rep.fr F3.out (fun g hg e => HOF.out (by have e' : g = b := e; rw [← e']; exact hg)))
    have HFR3 : Hid (Fr (TD.fp ⟨d, t, b⟩) w w3) := hid (HFR.out.trans F3.out (fun k e => .inl (.inl e)))
    refine (tdepth_in w3 b d t' (HB3'.out.range 0 _ (by simp [ptr_length])) HR3.out ⟨⟨_, _, HO.out⟩, HG.out, HSZ.out.1.imp id (fun e => by have := HS.out; omega), by have := HS.out; have := HSZ.out; omega⟩ (by have := HD.out; omega)).mono ?_
    rintro e w4 ⟨rfl, f4⟩
    have HB4 : Hid (Blk w4 b 105 (ptr d t' ++ [.int .i64 (m : Int)])) := hid (HB3'.out.fr f4 id)
    have HR4 : Hid (Rep w4 d t') := hid (HR3.out.no f4)
    have HFR4 : Hid (Fr (TD.fp ⟨d, t, b⟩) w w4) := hid (HFR3.out.trans' f4.no)
    clear f4
    rcases d with _ | d0
    · go_wp2_with fail
      have hold := Facts.nil_hold w4.drew
      refine wpD_region hold (by kernel_rfl) 12 rfl ?_
      (refine wpD_plain 0 (v := ?_) rfl (by kernel_rfl) (by kernel_rfl) (by kernel_rfl) (fun _ _ _ h => h) (by rfl) ?_ (by assumption) ?_; rotate_left; (intro _w; go_simp; try with_reducible rfl); simp only [Act.put, List.setIfInBounds_toArray, List.set_cons_zero, List.set_cons_succ])
      (refine wpD_plain 1 (v := (.bool false)) rfl (by kernel_rfl) (by kernel_rfl) (by kernel_rfl) (fun _ _ _ h => h) (by rfl) ?_ (by assumption) ?_; (intro _w; go_simp; skip); simp only [Act.put, List.setIfInBounds_toArray, List.set_cons_zero, List.set_cons_succ])
      (refine wpD_plain 2 (v := ?_) rfl (by kernel_rfl) (by kernel_rfl) (by kernel_rfl) (fun _ _ _ h => h) (by rfl) ?_ (by assumption) ?_; rotate_left; (intro _w; go_simp; try with_reducible rfl); simp only [Act.put, List.setIfInBounds_toArray, List.set_cons_zero, List.set_cons_succ])
      (refine wpD_skip 3 rfl (by kernel_rfl) (by kernel_rfl) (by kernel_rfl) (fun _ _ _ h => h) (by rfl) (by assumption) ?_; simp only [Act.put, List.setIfInBounds_toArray, List.set_cons_zero, List.set_cons_succ])
      (refine wpD_skip 4 rfl (by kernel_rfl) (by kernel_rfl) (by kernel_rfl) (fun _ _ _ h => h) (by rfl) (by assumption) ?_; simp only [Act.put, List.setIfInBounds_toArray, List.set_cons_zero, List.set_cons_succ])
      (refine wpD_skip 5 rfl (by kernel_rfl) (by kernel_rfl) (by kernel_rfl) (fun _ _ _ h => h) (by rfl) (by assumption) ?_; simp only [Act.put, List.setIfInBounds_toArray, List.set_cons_zero, List.set_cons_succ])
      (refine wpD_skip 6 rfl (by kernel_rfl) (by kernel_rfl) (by kernel_rfl) (fun _ _ _ h => h) (by rfl) (by assumption) ?_; simp only [Act.put, List.setIfInBounds_toArray, List.set_cons_zero, List.set_cons_succ])
      (refine wpD_skip 7 rfl (by kernel_rfl) (by kernel_rfl) (by kernel_rfl) (fun _ _ _ h => h) (by rfl) (by assumption) ?_; simp only [Act.put, List.setIfInBounds_toArray, List.set_cons_zero, List.set_cons_succ])
      (refine wpD_skip 8 rfl (by kernel_rfl) (by kernel_rfl) (by kernel_rfl) (fun _ _ _ h => h) (by rfl) (by assumption) ?_; simp only [Act.put, List.setIfInBounds_toArray, List.set_cons_zero, List.set_cons_succ])
      (refine wpD_skip 9 rfl (by kernel_rfl) (by kernel_rfl) (by kernel_rfl) (fun _ _ _ h => h) (by rfl) (by assumption) ?_; simp only [Act.put, List.setIfInBounds_toArray, List.set_cons_zero, List.set_cons_succ])
      (refine wpD_skip 10 rfl (by kernel_rfl) (by kernel_rfl) (by kernel_rfl) (fun _ _ _ h => h) (by rfl) (by assumption) ?_; simp only [Act.put, List.setIfInBounds_toArray, List.set_cons_zero, List.set_cons_succ])
      (refine wpD_plain 11 (v := ?_) rfl (by kernel_rfl) (by kernel_rfl) (by kernel_rfl) (fun _ _ _ h => h) (by rfl) ?_ (by assumption) ?_; rotate_left; (intro _w; go_simp; try with_reducible rfl); simp only [Act.put, List.setIfInBounds_toArray, List.set_cons_zero, List.set_cons_succ])
      clear hold
      refine wpD_done (by kernel_rfl) ?_ _
      try simp only [Act.put, List.setIfInBounds_toArray, List.set_cons_zero, List.set_cons_succ]
      go_wp2
      go_ret
      refine ⟨by first | rfl | (rw [hh]; rfl), ⟨0, t', b⟩, rfl, ⟨?_, HR4.out.no (Fr.refl No w4).drew, HO.out, HG.out, HFL.out, ?_, .inl rfl, HOF.out⟩, HFR4.out.trans' (Fr.refl _ w4).drew, fun g hg => hg.elim (fun e => .inl (.inl e)) (HGR.out g)⟩
      · rw [HM.out]; exact HB4.out
      · have : l.length ≤ 8 ^ (0 + 1) := H.out.cap
        rw [HM.out]; have := HLM.out; show m ≤ 8 ^ (0 + 1); omega
    · obtain ⟨q, hq⟩ : ∃ q : Nat, 8 ^ (d0 + 1) = q := ⟨_, rfl⟩
      have HQ := hid hq
      have hdi : (d0 : Int) ≤ 13 := by have := HD.out; omega
      have c4 : w4.cell? ⟨b, 2, none⟩ = some (.int .i64 (m : Int)) := by
        rw [HB4.out.cell 2, List.getElem?_append_right (by rw [ptr_length]; exact Nat.le_refl _), ptr_length]; rfl
      have hd1 : (1 : Int) < (d0 : Int) + 1 + 1 := by omega
      have HD1 := hid hd1
      clear hd1
      go_wp2_with fail
      have hold : Facts.hold [(6, fun w' => w'.cell? ⟨b, 2, none⟩ = some (.int .i64 (m : Int)))] w4.drew := Facts.cons_hold c4 (Facts.nil_hold _)
      refine wpD_region hold (by kernel_rfl) 12 rfl ?_
      (refine wpD_plain 0 (v := ?_) rfl (by kernel_rfl) (by kernel_rfl) (by kernel_rfl) (fun _ _ _ h => h) (by rfl) ?_ (by assumption) ?_; rotate_left; (intro _w; go_simp; try with_reducible rfl); simp only [Act.put, List.setIfInBounds_toArray, List.set_cons_zero, List.set_cons_succ])
      (refine wpD_plain 1 (v := (.bool true)) rfl (by kernel_rfl) (by kernel_rfl) (by kernel_rfl) (fun _ _ _ h => h) (by rfl) ?_ (by assumption) ?_; (intro _w; go_simp; (have := HD1.out; simp; try omega)); simp only [Act.put, List.setIfInBounds_toArray, List.set_cons_zero, List.set_cons_succ])
      (refine wpD_plain 2 (v := ?_) rfl (by kernel_rfl) (by kernel_rfl) (by kernel_rfl) (fun _ _ _ h => h) (by rfl) ?_ (by assumption) ?_; rotate_left; (intro _w; go_simp; try with_reducible rfl); simp only [Act.put, List.setIfInBounds_toArray, List.set_cons_zero, List.set_cons_succ])
      (refine wpD_plain 3 (v := ?_) rfl (by kernel_rfl) (by kernel_rfl) (by kernel_rfl) (fun _ _ _ h => h) (by rfl) ?_ (by assumption) ?_; rotate_left; (intro _w; go_simp; try with_reducible rfl); simp only [Act.put, List.setIfInBounds_toArray, List.set_cons_zero, List.set_cons_succ])
      (refine wpD_plain 4 (v := ?_) rfl (by kernel_rfl) (by kernel_rfl) (by kernel_rfl) (fun _ _ _ h => h) (by rfl) ?_ (by assumption) ?_; rotate_left; (intro _w; go_simp; try with_reducible rfl); simp only [Act.put, List.setIfInBounds_toArray, List.set_cons_zero, List.set_cons_succ])
      (refine wpD_plain 5 (v := ?_) rfl (by kernel_rfl) (by kernel_rfl) (by kernel_rfl) (fun _ _ _ h => h) (by rfl) ?_ (by assumption) ?_; rotate_left; (intro _w; go_simp; try with_reducible rfl); simp only [Act.put, List.setIfInBounds_toArray, List.set_cons_zero, List.set_cons_succ])
      (refine wpD_take 6 _ rfl (by kernel_rfl) (by kernel_rfl) (by kernel_rfl) (fun _ _ _ h => h) List.mem_cons_self (by rfl) (v := ?_) ?_ (by assumption) ?_; rotate_left; (intro _w _hw; go_simp; try with_reducible rfl); simp only [Act.put, List.setIfInBounds_toArray, List.set_cons_zero, List.set_cons_succ])
      (refine wpD_plain 7 (v := ?_) rfl (by kernel_rfl) (by kernel_rfl) (by kernel_rfl) (fun _ _ _ h => h) (by rfl) ?_ (by assumption) ?_; rotate_left; (intro _w; go_simp; try with_reducible rfl); simp only [Act.put, List.setIfInBounds_toArray, List.set_cons_zero, List.set_cons_succ])
      (refine wpD_plain 8 (v := (.int .i64 ((d0 + 1 : Nat) : Int))) rfl (by kernel_rfl) (by kernel_rfl) (by kernel_rfl) (fun _ _ _ h => h) (by rfl) ?_ (by assumption) ?_; (intro _w; go_simp; (rw [IntKind.wrap_i64]; have := HD.out; omega)); simp only [Act.put, List.setIfInBounds_toArray, List.set_cons_zero, List.set_cons_succ])
      clear hold
      refine wpD_only 9 [(6, fun w' => w'.cell? ⟨b, 2, none⟩ = some (.int .i64 (m : Int)))] rfl (by kernel_rfl) (by kernel_rfl) (by rfl) (fun K5 hK5 => ?_)
      refine wp_call (.func 49) _ _ rfl 49 [] rfl (fun vs w => by kernel_rfl) [.int .i64 ((d0 + 1 : Nat) : Int)] (by rfl) ?_
      refine (capacity_any w4.drew (d0 + 1) q (by have := HD.out; omega) hq).mono ?_
      rintro e w5 ⟨rfl, f5⟩
      have F5 : Hid (Fr No w4 w5) := hid ((Fr.refl No w4).drew.trans' f5)
      have hold : Facts.hold [(6, fun w' => w'.cell? ⟨b, 2, none⟩ = some (.int .i64 (m : Int)))] w5 := Facts.cons_hold (F5.out.cell c4 id) (Facts.nil_hold _)
      refine ⟨_, rfl, hK5 _ _ hold ?_⟩
      clear hK5 K5 f5
      simp only [Act.put, List.setIfInBounds_toArray, List.set_cons_zero, List.set_cons_succ]
      (refine wpD_plain 10 (v := ?_) rfl (by kernel_rfl) (by kernel_rfl) (by kernel_rfl) (fun _ _ _ h => h) (by rfl) ?_ (by assumption) ?_; rotate_left; (intro _w; go_simp; try with_reducible rfl); simp only [Act.put, List.setIfInBounds_toArray, List.set_cons_zero, List.set_cons_succ])
      (refine wpD_plain 11 (v := ?_) rfl (by kernel_rfl) (by kernel_rfl) (by kernel_rfl) (fun _ _ _ h => h) (by rfl) ?_ (by assumption) ?_; rotate_left; (intro _w; go_simp; try with_reducible rfl); simp only [Act.put, List.setIfInBounds_toArray, List.set_cons_zero, List.set_cons_succ])
      clear hold
      refine wpD_done (by kernel_rfl) ?_ _
      try simp only [Act.put, List.setIfInBounds_toArray, List.set_cons_zero, List.set_cons_succ]
      have HB5 : Hid (Blk w5 b 105 (ptr (d0 + 1) t' ++ [.int .i64 (m : Int)])) := hid (HB4.out.fr F5.out id)
      have HR5 : Hid (Rep w5 (d0 + 1) t') := hid (HR4.out.no F5.out)
      have HFR5 : Hid (Fr (TD.fp ⟨d0 + 1, t, b⟩) w w5) := hid (HFR4.out.trans' F5.out.no)
      have hlow : 8 ^ (d0 + 1) < l.length := H.out.low.elim (fun e => by cases e) id
      have hcap : l.length ≤ 8 ^ (d0 + 1 + 1) := H.out.cap
      have HLOW := hid hlow; have HCAP := hid hcap
      clear c4 hlow hcap
      by_cases hmq : m ≤ q
      · have hmi : (m : Int) ≤ (q : Int) := by omega
        have hb0 := HSZ.out
        have hb1 := HS.out
        have HT2 : Hid (1 ≤ t'.l.length ∧ t'.l.length ≤ 1000000000000) := hid (by omega)
        clear hb0 hb1
        go_wp2_with ((with_reducible show wpList _ _ _ ({ dst := _, op := .load 103 _, type := _, pos := _, after := _, guard := _ } :: _) _ _); refine wpL_load rfl _ _ rfl b 0 rfl (ptr (d0 + 1) t') _ (HB5.out.range 0 _ (by simp [ptr_length])) rfl rfl (by rw [ptr_length]; exact info_p) ?_)
        refine (lowered_any d0 w5 t' ⟨#[]⟩ none HR5.out HO.out HG.out HT2.out.2 HT2.out.1).mono ?_
        rintro e w6 ⟨u, rfl, r1, r2, r3, r4, r5, r6, r7, r8⟩
        have R1 := hid r1; have R2 := hid r2; have R3 := hid r3; have R4 := hid r4; have R6 := hid r6
        have HB6 : Hid (Blk w6 b 105 (ptr (d0 + 1) t' ++ [.int .i64 (m : Int)])) := hid (HB5.out.fr r5 HOF.out)
        have HFR6 : Hid (Fr (TD.fp ⟨d0 + 1, t, b⟩) w w6) := hid (HFR5.out.trans r5 (fun k e => HGR.out k e))
        clear r1 r2 r3 r4 r5 r6 r7 r8
        go_wp2_with ((with_reducible show wpList _ _ _ ({ dst := _, op := .store 103 _ _, type := _, pos := _, after := _, guard := _ } :: _) _ _); refine wpL_storeV rfl _ _ _ rfl b 0 (val d0 u) (ptr d0 u) rfl rfl rfl _ _ HB6.out (by simp [ptr_length]) (by rw [ptr_length]; exact info_p) (ptr_one d0 u) ?_; intro w7 HB7 F7 HS7)
        go_ret
        have HGU : ∀ g, fp d0 u g → TD.fp ⟨d0 + 1, t, b⟩ g ∨ w.heap.size ≤ g := fun g hg => (R6.out g hg).elim (HGR.out g) (fun e => .inr (by have := HFR5.out.size; omega))
        have hnb : ¬ fp d0 u b := fun e => (R6.out _ e).elim HOF.out (fun e => by have := HB5.out.lt; omega)
        refine ⟨by first | rfl | (rw [hh]; rfl), ⟨d0, u, b⟩, rfl, ⟨?_, R1.out.fr F7.out (fun g hg e => hnb (by have e' : g = b := e; rw [← e']; exact hg)), R2.out, R3.out, R4.out.trans HFL.out, ?_, ?_, hnb⟩, HFR6.out.trans F7.out (fun k e => .inl (.inl e)), fun g hg => hg.elim (fun e => .inl (.inl e)) (HGU g)⟩
        · have := HB7.out
          rw [spl_root] at this
          rw [HM.out]
          exact this
        · rw [HM.out]; show m ≤ 8 ^ (d0 + 1); rw [HQ.out]; exact hmq
        · refine .inr ?_
          rw [HM.out]
          show 8 ^ d0 < m
          have h1 := HLOW.out
          have h2 := HLM.out
          have h3 : (8 : Nat) ^ (d0 + 1) = 8 ^ d0 * 8 := Nat.pow_succ _ _
          have h4 : 0 < 8 ^ d0 := Nat.pos_of_ne_zero (by simp)
          omega
      · have hmi : ¬ ((m : Int) ≤ (q : Int)) := by omega
        go_wp2
        go_ret
        refine ⟨by first | rfl | (rw [hh]; rfl), ⟨d0 + 1, t', b⟩, rfl, ⟨?_, HR5.out, HO.out, HG.out, HFL.out, ?_, ?_, HOF.out⟩, HFR5.out, fun g hg => hg.elim (fun e => .inl (.inl e)) (HGR.out g)⟩
        · rw [HM.out]; exact HB5.out
        · rw [HM.out]; have := HCAP.out; have := HLM.out; show m ≤ 8 ^ (d0 + 1 + 1); omega
        · refine .inr ?_
          rw [HM.out]; show 8 ^ (d0 + 1) < m; rw [HQ.out]; omega
end Go.Proofs.Ytlnolnaapnijbaa.TR
