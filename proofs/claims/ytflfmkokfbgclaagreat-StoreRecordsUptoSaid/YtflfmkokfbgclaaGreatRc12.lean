/-
  Part 12 of the proof: TrTb, TrTc, TrTd, TrTe, TrTf.
-/
import Derived.Test.YtflfmkokfbgclaaGreatRc11
set_option linter.unusedSimpArgs false
set_option linter.unusedVariables false
namespace Go.Proofs.YtflfmkokfbgclaaGreat.TR
set_option maxRecDepth 100000
open Go.RowKit K

/-- What a call that turns a tree leaves. -/
def TPost (w : World) (T : TD) (r : Bool) (l' : L) (e : Ending) (w' : World) : Prop :=
  e = .returned (.bool r) ∧ ∃ T' : TD, T'.b = T.b ∧ TrAt w' T' l' ∧ Fr T.fp w w' ∧ ∀ g, T'.fp g → T.fp g ∨ w.heap.size ≤ g
theorem spl_len (d : Nat) (t : PT d) (x y : Value) : spl (ptr d t ++ [x]) 2 [y] = ptr d t ++ [y] := by
  unfold spl
  rw [List.take_append_of_le_length (by rw [ptr_length]; exact Nat.le_refl _), List.take_of_length_le (by rw [ptr_length]; exact Nat.le_refl _)]
  simp [ptr_length]
theorem spl_root (d d' : Nat) (t : PT d) (u : PT d') (x : Value) : spl (ptr d t ++ [x]) 0 (ptr d' u) = ptr d' u ++ [x] := by
  unfold spl
  rw [ptr_length, List.drop_append_of_le_length (by rw [ptr_length]; exact Nat.le_refl _), List.drop_of_length_le (by rw [ptr_length]; exact Nat.le_refl _)]
  simp
theorem info_i64 : (Tryz.prog.info? 3).map (·.size) = some 1 := by kernel_rfl
set_option maxHeartbeats 8000000 in
theorem tput_to (w : World) (T : TD) (l : L) (key v : S) (h : TrAt w T l) (hn : l.length ≤ 4398046511103) : Calls Tryz.prog 60 #[T.v, .string key, .string v] w (TPost w T (has key l) (put key v l)) := by
  have H := hid h
  have hsz := h.size (by omega)
  have HSZ := hid hsz
  have HD : Hid (T.d ≤ 13) := hid (h.d_le (by omega))
  have HN := hid hn
  clear h hsz hn
  show Calls Tryz.prog _ #[.pointer (some ⟨T.b, 0, none⟩), .string key, .string v] w _
  go_enter Tryz.func60, Tryz.ntmps60
  go_wp2_with ((with_reducible show wpList _ _ _ (⟨_, .load 134 _, _, _, _, _⟩ :: _) _ _); refine wpL_load rfl _ _ rfl T.b 0 rfl (ptr T.d T.t) _ H.out.rg rfl rfl (by rw [ptr_length]; exact info_p) ?_)
  refine (put_any T.d w T.t ⟨#[]⟩ none key v H.out.rep H.out.ok H.out.good HSZ.out.1 (lt_empty _) trivial (by have := HSZ.out.2; omega)).mono ?_
  rintro e w2 ⟨t', rfl, ht, hok, hgd, hfl, hs1, hs2⟩
  rw [H.out.fl] at hfl ⊢
  have HT := hid ht; have HO := hid hok; have HG := hid hgd; have HFL := hid hfl
  have HPT : Hid (ptr T.d t' = ptr T.d T.t) := hid (ptr_b ht.b)
  have HS := hid (And.intro hs1 hs2)
  have HB2 : Hid (Blk w2 T.b 136 (ptr T.d T.t ++ [.int .i64 l.length])) := hid (H.out.blk.fr ht.fr H.out.off)
  have HFR : Hid (Fr T.fp w w2) := hid (ht.fr.mono fun g hg => .inr hg)
  have HGR : Hid (∀ g, fp T.d t' g → T.fp g ∨ w.heap.size ≤ g) := hid (fun g hg => (ht.grow g hg).imp .inr id)
  have HOF : Hid (¬ fp T.d t' T.b) := hid (fun e => (ht.grow _ e).elim H.out.off (fun e => by have := H.out.blk.lt; omega))
  clear ht hok hgd hfl hs1 hs2
  cases hh : has key l with
  | true =>
    have HL : Hid ((put key v l).length = l.length) := hid (by rw [put_length, hh]; rfl)
    go_wp2
    go_ret
    refine ⟨by first | rfl | (rw [hh]; rfl), ⟨T.d, t', T.b⟩, rfl, ⟨?_, HT.out.rep, HO.out, HG.out, HFL.out, ?_, ?_, HOF.out⟩, HFR.out, fun g hg => hg.elim (fun e => .inl (.inl e)) (HGR.out g)⟩
    · rw [HL.out]; show Blk _ _ _ (ptr T.d t' ++ _); rw [HPT.out]; exact HB2.out
    · rw [HL.out]; exact H.out.cap
    · rw [HL.out]; exact H.out.low
  | false =>
    have HL : Hid ((put key v l).length = l.length + 1) := hid (by rw [put_length, hh]; rfl)
    have hni : (l.length : Int) ≤ 4398046511103 := by have := HN.out; omega
    have c2 : w2.cell? ⟨T.b, 2, none⟩ = some (.int .i64 l.length) := by
      rw [HB2.out.cell 2, List.getElem?_append_right (by rw [ptr_length]; exact Nat.le_refl _), ptr_length]; rfl
    go_wp2_with ((with_reducible show wpList _ _ _ (⟨_, .store 3 _ _, _, _, _, _⟩ :: _) _ _); refine wpL_storeV rfl _ _ _ rfl T.b 2 (.int .i64 ((l.length : Int) + 1)) [.int .i64 ((l.length : Int) + 1)] rfl (by go_num) rfl _ _ HB2.out (by simp [ptr_length]) info_i64 (by intro u hu; simp at hu; subst hu; rfl) ?_; intro w3 HB3 F3 HS3)
    clear c2
    have HB3' : Hid (Blk w3 T.b 136 (ptr T.d t' ++ [.int .i64 ((l.length : Int) + 1)])) := hid (by have := HB3.out; rwa [spl_len, ← HPT.out] at this)
    have c3 : w3.cell? ⟨T.b, 2, none⟩ = some (.int .i64 ((l.length : Int) + 1)) := by
      rw [HB3'.out.cell 2, List.getElem?_append_right (by rw [ptr_length]; exact Nat.le_refl _), ptr_length]; rfl
    have HR3 : Hid (Rep w3 T.d t') := hid (HT.out.rep.fr F3.out (fun g hg e => HOF.out (by have e' : g = T.b := e; rw [← e']; exact hg)))
    have HFR3 : Hid (Fr T.fp w w3) := hid (HFR.out.trans F3.out (fun k e => .inl (.inl e)))
    obtain ⟨q, hq⟩ : ∃ q : Nat, 8 ^ (T.d + 1) = q := ⟨_, rfl⟩
    have HQ := hid hq
    have hold : Facts.hold [(3, fun w' => w'.cell? ⟨T.b, 2, none⟩ = some (.int .i64 ((l.length : Int) + 1)))] w3.drew := Facts.cons_hold c3 (Facts.nil_hold _)
    refine wpD_region hold (by kernel_rfl) 8 rfl ?_
    (refine wpD_plain 0 (v := ?_) rfl (by kernel_rfl) (by kernel_rfl) (by kernel_rfl) (fun _ _ _ h => h) (by rfl) ?_ (by assumption) ?_; rotate_left; (intro _w; go_simp; try with_reducible rfl); simp only [Act.put, List.setIfInBounds_toArray, List.set_cons_zero, List.set_cons_succ])
    (refine wpD_plain 1 (v := ?_) rfl (by kernel_rfl) (by kernel_rfl) (by kernel_rfl) (fun _ _ _ h => h) (by rfl) ?_ (by assumption) ?_; rotate_left; (intro _w; go_simp; try with_reducible rfl); simp only [Act.put, List.setIfInBounds_toArray, List.set_cons_zero, List.set_cons_succ])
    (refine wpD_plain 2 (v := ?_) rfl (by kernel_rfl) (by kernel_rfl) (by kernel_rfl) (fun _ _ _ h => h) (by rfl) ?_ (by assumption) ?_; rotate_left; (intro _w; go_simp; try with_reducible rfl); simp only [Act.put, List.setIfInBounds_toArray, List.set_cons_zero, List.set_cons_succ])
    (refine wpD_take 3 _ rfl (by kernel_rfl) (by kernel_rfl) (by kernel_rfl) (fun _ _ _ h => h) List.mem_cons_self (by rfl) (v := ?_) ?_ (by assumption) ?_; rotate_left; (intro _w _hw; go_simp; try with_reducible rfl); simp only [Act.put, List.setIfInBounds_toArray, List.set_cons_zero, List.set_cons_succ])
    (refine wpD_plain 4 (v := ?_) rfl (by kernel_rfl) (by kernel_rfl) (by kernel_rfl) (fun _ _ _ h => h) (by rfl) ?_ (by assumption) ?_; rotate_left; (intro _w; go_simp; try with_reducible rfl); simp only [Act.put, List.setIfInBounds_toArray, List.set_cons_zero, List.set_cons_succ])
    clear hold
    refine wpD_only 5 [(3, fun w' => w'.cell? ⟨T.b, 2, none⟩ = some (.int .i64 ((l.length : Int) + 1)))] rfl (by kernel_rfl) (by kernel_rfl) (by rfl) (fun K5 hK5 => ?_)
    have hrg3 : w3.rangeAt T.b 0 (ptr T.d t') := HB3'.out.range 0 _ (by simp [ptr_length])
    refine wp_call (.func 79) _ _ rfl 79 [] rfl (fun vs w => by kernel_rfl) [.pointer (some ⟨T.b, 0, none⟩)] (by rfl) ?_
    refine (tdepth_in w3.drew T.b T.d t' hrg3 (HR3.out.no (Fr.refl No w3).drew) ⟨⟨_, _, HO.out⟩, HG.out, HSZ.out.1.imp id (fun e => by have := HS.out; omega), by have := HS.out; have := HSZ.out; omega⟩ (by have := HD.out; omega)).mono ?_
    rintro e w4 ⟨rfl, f4⟩
    have F4 : Hid (Fr No w3 w4) := hid ((Fr.refl No w3).drew.trans' f4)
    have hold : Facts.hold [(3, fun w' => w'.cell? ⟨T.b, 2, none⟩ = some (.int .i64 ((l.length : Int) + 1)))] w4 := Facts.cons_hold (F4.out.cell c3 id) (Facts.nil_hold _)
    refine ⟨_, rfl, hK5 _ _ hold ?_⟩
    clear hold
    clear hK5 K5 f4 hrg3
    simp only [Act.put, List.setIfInBounds_toArray, List.set_cons_zero, List.set_cons_succ]
    refine wpD_only 6 [(3, fun w' => w'.cell? ⟨T.b, 2, none⟩ = some (.int .i64 ((l.length : Int) + 1)))] rfl (by kernel_rfl) (by kernel_rfl) (by rfl) (fun K6 hK6 => ?_)
    refine wp_call (.func 80) _ _ rfl 80 [] rfl (fun vs w => by kernel_rfl) [.int .i64 ((T.d + 1 : Nat) : Int)] (by rfl) ?_
    refine (capacity_any w4 (T.d + 1) q (by have := HD.out; omega) hq).mono ?_
    rintro e w5 ⟨rfl, f5⟩
    have F5 : Hid (Fr No w3 w5) := hid (F4.out.trans' f5)
    have hold : Facts.hold [(3, fun w' => w'.cell? ⟨T.b, 2, none⟩ = some (.int .i64 ((l.length : Int) + 1)))] w5 := Facts.cons_hold (F5.out.cell c3 id) (Facts.nil_hold _)
    refine ⟨_, rfl, hK6 _ _ hold ?_⟩
    clear hK6 K6 f5
    simp only [Act.put, List.setIfInBounds_toArray, List.set_cons_zero, List.set_cons_succ]
    (refine wpD_plain 7 (v := ?_) rfl (by kernel_rfl) (by kernel_rfl) (by kernel_rfl) (fun _ _ _ h => h) (by rfl) ?_ (by assumption) ?_; rotate_left; (intro _w; go_simp; try with_reducible rfl); simp only [Act.put, List.setIfInBounds_toArray, List.set_cons_zero, List.set_cons_succ])
    clear hold
    refine wpD_done (by kernel_rfl) ?_ _
    try simp only [Act.put, List.setIfInBounds_toArray, List.set_cons_zero, List.set_cons_succ]
    have HB5 : Hid (Blk w5 T.b 136 (ptr T.d t' ++ [.int .i64 ((l.length : Int) + 1)])) := hid (HB3'.out.fr F5.out id)
    have HR5 : Hid (Rep w5 T.d t') := hid (HR3.out.no F5.out)
    have HFR5 : Hid (Fr T.fp w w5) := hid (HFR3.out.trans' F5.out.no)
    have hlen : ((put key v l).length : Int) = (l.length : Int) + 1 := by rw [HL.out]; rfl
    have HLEN := hid hlen
    clear hlen c3
    by_cases hm : q < l.length + 1
    · have hmi : (q : Int) < (l.length : Int) + 1 := by omega
      have hb0 := HSZ.out.2
      have hfc := flat_count HG.out
      rw [HFL.out, HL.out] at hfc
      have h9 : 9 ≤ t'.l.length := by
        rcases Nat.lt_or_ge t'.l.length 9 with h1 | h1
        · have h2 : t'.l.length * 8 ^ T.d ≤ 8 * 8 ^ T.d := Nat.mul_le_mul_right _ (by omega)
          rw [Nat.pow_succ] at hq
          omega
        · exact h1
      have H9 := hid h9
      have h30 : t'.l.length ≤ 1073741824 := by have := HS.out; omega
      have H30 := hid h30
      clear hfc h9 h30 hb0
      go_wp2_with ((with_reducible show wpList _ _ _ (⟨_, .load 134 _, _, _, _, _⟩ :: _) _ _); refine wpL_load rfl _ _ rfl T.b 0 rfl (ptr T.d t') _ (HB5.out.range 0 _ (by simp [ptr_length])) rfl rfl (by rw [ptr_length]; exact info_p) ?_)
      refine (raised_any T.d w5 t' HR5.out HO.out HG.out H9.out H30.out).mono ?_
      rintro e w6 ⟨u, rfl, r1, r2, r3, r4, r5, r6, r7, r8⟩
      have R1 := hid r1; have R2 := hid r2; have R3 := hid r3; have R4 := hid r4; have R6 := hid r6
      have HB6 : Hid (Blk w6 T.b 136 (ptr T.d t' ++ [.int .i64 ((l.length : Int) + 1)])) := hid (HB5.out.fr r5 HOF.out)
      have HFR6 : Hid (Fr T.fp w w6) := hid (HFR5.out.trans r5 (fun k e => HGR.out k e))
      clear r1 r2 r3 r4 r5 r6 r7 r8
      go_wp2_with ((with_reducible show wpList _ _ _ (⟨_, .store 134 _ _, _, _, _, _⟩ :: _) _ _); refine wpL_storeV rfl _ _ _ rfl T.b 0 (val (T.d + 1) u) (ptr (T.d + 1) u) rfl rfl rfl _ _ HB6.out (by simp [ptr_length]) (by rw [ptr_length]; exact info_p) (ptr_one (T.d + 1) u) ?_; intro w7 HB7 F7 HS7)
      go_ret
      have HGU : ∀ g, fp (T.d + 1) u g → T.fp g ∨ w.heap.size ≤ g := fun g hg => (R6.out g hg).elim (HGR.out g) (fun e => .inr (by have := HFR5.out.size; omega))
      have hnb : ¬ fp (T.d + 1) u T.b := fun e => (R6.out _ e).elim HOF.out (fun e => by have := HB5.out.lt; omega)
      refine ⟨by first | rfl | (rw [hh]; rfl), ⟨T.d + 1, u, T.b⟩, rfl, ⟨?_, R1.out.fr F7.out (fun g hg e => hnb (by have e' : g = T.b := e; rw [← e']; exact hg)), R2.out, R3.out, R4.out.trans HFL.out, ?_, .inr ?_, hnb⟩, HFR6.out.trans F7.out (fun k e => .inl (.inl e)), fun g hg => hg.elim (fun e => .inl (.inl e)) (HGU g)⟩
      · have := HB7.out
        rw [spl_root] at this
        rw [HLEN.out]
        exact this
      · have h1 := H.out.cap
        have h2 : (8 : Nat) ^ (T.d + 1 + 1) = 8 ^ (T.d + 1) * 8 := Nat.pow_succ _ _
        rw [HL.out]
        have h3 : 0 < 8 ^ (T.d + 1) := Nat.pos_of_ne_zero (by simp)
        show l.length + 1 ≤ 8 ^ (T.d + 1 + 1)
        omega
      · rw [HL.out]; show 8 ^ (T.d + 1) < l.length + 1; rw [HQ.out]; exact hm
    · have hmi : ¬ ((q : Int) < (l.length : Int) + 1) := by omega
      go_wp2
      go_ret
      refine ⟨by first | rfl | (rw [hh]; rfl), ⟨T.d, t', T.b⟩, rfl, ⟨?_, HR5.out, HO.out, HG.out, HFL.out, ?_, ?_, HOF.out⟩, HFR5.out, fun g hg => hg.elim (fun e => .inl (.inl e)) (HGR.out g)⟩
      · rw [HLEN.out]; exact HB5.out
      · rw [HL.out]; show l.length + 1 ≤ 8 ^ (T.d + 1); rw [HQ.out]; omega
      · rw [HL.out]; exact H.out.low.imp id (fun e => by show 8 ^ T.d < l.length + 1; omega)
theorem tput_any (w : World) (T : TD) (l : L) (key v : S) (h : TrAt w T l) (hn : l.length ≤ 4398046511000) : Calls Tryz.prog 60 #[T.v, .string key, .string v] w (TPost w T (has key l) (put key v l)) := tput_to w T l key v h (by omega)
end Go.Proofs.YtflfmkokfbgclaaGreat.TR

namespace Go.Proofs.YtflfmkokfbgclaaGreat.TR
set_option maxRecDepth 100000
open Go.RowKit K

set_option maxHeartbeats 8000000 in
theorem tdel_any (w : World) (T : TD) (l : L) (key : S) (h : TrAt w T l) (hn : l.length ≤ 4398046511104) : Calls Tryz.prog 59 #[T.v, .string key] w (TPost w T (has key l) (del key l)) := by
  obtain ⟨d, t, b⟩ := T
  have H := hid h
  have hsz := h.size hn
  have HSZ : Hid ((d = 0 ∨ 2 ≤ t.l.length) ∧ t.l.length ≤ 65536) := hid hsz
  have HD : Hid (d ≤ 13) := hid (h.d_le hn)
  have HRGw : Hid (w.rangeAt b 0 (ptr d t)) := hid h.rg
  have HN := hid hn
  clear h hsz hn
  show Calls Tryz.prog _ #[.pointer (some ⟨b, 0, none⟩), .string key] w _
  go_enter Tryz.func59, Tryz.ntmps59
  go_wp2_with ((with_reducible show wpList _ _ _ (⟨_, .load 134 _, _, _, _, _⟩ :: _) _ _); refine wpL_load rfl _ _ rfl b 0 rfl (ptr d t) _ HRGw.out rfl rfl (by rw [ptr_length]; exact info_p) ?_)
  refine (rem_any d w t ⟨#[]⟩ none key H.out.rep H.out.ok H.out.good HSZ.out.1 (lt_empty _) trivial (by have := HSZ.out.2; omega)).mono ?_
  rintro e w2 ⟨t', rfl, ht, hok, hgd, hfl, hs1, hs2⟩
  have hfe : flat d t = l := H.out.fl
  rw [hfe] at hfl ⊢
  clear hfe
  have HT := hid ht; have HO := hid hok; have HG := hid hgd; have HFL := hid hfl
  have HPT : Hid (ptr d t' = ptr d t) := hid (ptr_b ht.b)
  have HS := hid (And.intro hs1 hs2)
  have hoff : ¬ fp d t b := H.out.off
  have HB2 : Hid (Blk w2 b 136 (ptr d t ++ [.int .i64 l.length])) := hid (H.out.blk.fr ht.fr hoff)
  have HFR : Hid (Fr (TD.fp ⟨d, t, b⟩) w w2) := hid (ht.fr.mono fun g hg => .inr hg)
  have HGR : Hid (∀ g, fp d t' g → TD.fp ⟨d, t, b⟩ g ∨ w.heap.size ≤ g) := hid (fun g hg => (ht.grow g hg).imp .inr id)
  have HOF : Hid (¬ fp d t' b) := hid (fun e => (ht.grow _ e).elim hoff (fun e => by have : b < w.heap.size := H.out.blk.lt; omega))
  clear ht hok hgd hfl hs1 hs2 hoff
  cases hh : has key l with
  | false =>
    have HL : Hid ((del key l).length = l.length) := hid (by have := del_length key l; rw [hh] at this; simpa using this)
    go_wp2
    go_ret
    refine ⟨by first | rfl | (rw [hh]; rfl), ⟨d, t', b⟩, rfl, ⟨?_, HT.out.rep, HO.out, HG.out, HFL.out, ?_, ?_, HOF.out⟩, HFR.out, fun g hg => hg.elim (fun e => .inl (.inl e)) (HGR.out g)⟩
    · rw [HL.out]; show Blk _ _ _ (ptr d t' ++ _); rw [HPT.out]; exact HB2.out
    · rw [HL.out]; exact H.out.cap
    · rw [HL.out]; exact H.out.low
  | true =>
    obtain ⟨m, hm⟩ : ∃ m, (del key l).length = m := ⟨_, rfl⟩
    have hlm : l.length = m + 1 := by have := del_length key l; rw [hh, hm] at this; simpa using this.symm
    have HM := hid hm; have HLM := hid hlm
    have hni : (m : Int) ≤ 4398046511104 := by have := HN.out; omega
    have c2 : w2.cell? ⟨b, 2, none⟩ = some (.int .i64 ((m : Int) + 1)) := by
      rw [HB2.out.cell 2, List.getElem?_append_right (by rw [ptr_length]; exact Nat.le_refl _), ptr_length, hlm]; rfl
    clear hm hlm
    go_wp2_with ((with_reducible show wpList _ _ _ (⟨_, .store 3 _ _, _, _, _, _⟩ :: _) _ _); refine wpL_storeV rfl _ _ _ rfl b 2 (.int .i64 (m : Int)) [.int .i64 (m : Int)] rfl (by go_num) rfl _ _ HB2.out (by simp [ptr_length]) info_i64 (by intro u hu; simp at hu; subst hu; rfl) ?_; intro w3 HB3 F3 HS3)
    clear c2
    have HB3' : Hid (Blk w3 b 136 (ptr d t' ++ [.int .i64 (m : Int)])) := hid (by have := HB3.out; rwa [spl_len, ← HPT.out] at this)
    have HR3 : Hid (Rep w3 d t') := hid (HT.out.rep.fr F3.out (fun g hg e => HOF.out (by have e' : g = b := e; rw [← e']; exact hg)))
    have HFR3 : Hid (Fr (TD.fp ⟨d, t, b⟩) w w3) := hid (HFR.out.trans F3.out (fun k e => .inl (.inl e)))
    refine (tdepth_in w3 b d t' (HB3'.out.range 0 _ (by simp [ptr_length])) HR3.out ⟨⟨_, _, HO.out⟩, HG.out, HSZ.out.1.imp id (fun e => by have := HS.out; omega), by have := HS.out; have := HSZ.out; omega⟩ (by have := HD.out; omega)).mono ?_
    rintro e w4 ⟨rfl, f4⟩
    have HB4 : Hid (Blk w4 b 136 (ptr d t' ++ [.int .i64 (m : Int)])) := hid (HB3'.out.fr f4 id)
    have HR4 : Hid (Rep w4 d t') := hid (HR3.out.no f4)
    have HFR4 : Hid (Fr (TD.fp ⟨d, t, b⟩) w w4) := hid (HFR3.out.trans' f4.no)
    clear f4
    rcases d with _ | d0
    · go_wp2_with fail
      have hold := Facts.nil_hold w4.drew
      refine wpD_region hold (by kernel_rfl) 12 rfl ?_
      (refine wpD_plain 0 (v := ?_) rfl (by kernel_rfl) (by kernel_rfl) (by kernel_rfl) (fun _ _ _ h => h) (by rfl) ?_ (by assumption) ?_; rotate_left; (intro _w; go_simp; try with_reducible rfl); simp only [Act.put, List.setIfInBounds_toArray, List.set_cons_zero, List.set_cons_succ])
      (refine wpD_plain 1 (v := (.bool false)) rfl (by kernel_rfl) (by kernel_rfl) (by kernel_rfl) (fun _ _ _ h => h) (by rfl) ?_ (by assumption) ?_; (intro _w; go_simp; skip); simp only [Act.put, List.setIfInBounds_toArray, List.set_cons_zero, List.set_cons_succ])
      (refine wpD_plain 2 (v := ?_) rfl (by kernel_rfl) (by kernel_rfl) (by kernel_rfl) (fun _ _ _ h => h) (by rfl) ?_ (by assumption) ?_; rotate_left; (intro _w; go_simp; try with_reducible rfl); simp only [Act.put, List.setIfInBounds_toArray, List.set_cons_zero, List.set_cons_succ])
      (refine wpD_skip 3 rfl (by kernel_rfl) (by kernel_rfl) (by kernel_rfl) (fun _ _ _ h => h) (by rfl) (by assumption) ?_; simp only [Act.put, List.setIfInBounds_toArray, List.set_cons_zero, List.set_cons_succ])
      (refine wpD_skip 4 rfl (by kernel_rfl) (by kernel_rfl) (by kernel_rfl) (fun _ _ _ h => h) (by rfl) (by assumption) ?_; simp only [Act.put, List.setIfInBounds_toArray, List.set_cons_zero, List.set_cons_succ])
      (refine wpD_skip 5 rfl (by kernel_rfl) (by kernel_rfl) (by kernel_rfl) (fun _ _ _ h => h) (by rfl) (by assumption) ?_; simp only [Act.put, List.setIfInBounds_toArray, List.set_cons_zero, List.set_cons_succ])
      (refine wpD_skip 6 rfl (by kernel_rfl) (by kernel_rfl) (by kernel_rfl) (fun _ _ _ h => h) (by rfl) (by assumption) ?_; simp only [Act.put, List.setIfInBounds_toArray, List.set_cons_zero, List.set_cons_succ])
      (refine wpD_skip 7 rfl (by kernel_rfl) (by kernel_rfl) (by kernel_rfl) (fun _ _ _ h => h) (by rfl) (by assumption) ?_; simp only [Act.put, List.setIfInBounds_toArray, List.set_cons_zero, List.set_cons_succ])
      (refine wpD_skip 8 rfl (by kernel_rfl) (by kernel_rfl) (by kernel_rfl) (fun _ _ _ h => h) (by rfl) (by assumption) ?_; simp only [Act.put, List.setIfInBounds_toArray, List.set_cons_zero, List.set_cons_succ])
      (refine wpD_skip 9 rfl (by kernel_rfl) (by kernel_rfl) (by kernel_rfl) (fun _ _ _ h => h) (by rfl) (by assumption) ?_; simp only [Act.put, List.setIfInBounds_toArray, List.set_cons_zero, List.set_cons_succ])
      (refine wpD_skip 10 rfl (by kernel_rfl) (by kernel_rfl) (by kernel_rfl) (fun _ _ _ h => h) (by rfl) (by assumption) ?_; simp only [Act.put, List.setIfInBounds_toArray, List.set_cons_zero, List.set_cons_succ])
      (refine wpD_plain 11 (v := ?_) rfl (by kernel_rfl) (by kernel_rfl) (by kernel_rfl) (fun _ _ _ h => h) (by rfl) ?_ (by assumption) ?_; rotate_left; (intro _w; go_simp; try with_reducible rfl); simp only [Act.put, List.setIfInBounds_toArray, List.set_cons_zero, List.set_cons_succ])
      clear hold
      refine wpD_done (by kernel_rfl) ?_ _
      try simp only [Act.put, List.setIfInBounds_toArray, List.set_cons_zero, List.set_cons_succ]
      go_wp2
      go_ret
      refine ⟨by first | rfl | (rw [hh]; rfl), ⟨0, t', b⟩, rfl, ⟨?_, HR4.out.no (Fr.refl No w4).drew, HO.out, HG.out, HFL.out, ?_, .inl rfl, HOF.out⟩, HFR4.out.trans' (Fr.refl _ w4).drew, fun g hg => hg.elim (fun e => .inl (.inl e)) (HGR.out g)⟩
      · rw [HM.out]; exact HB4.out
      · have : l.length ≤ 8 ^ (0 + 1) := H.out.cap
        rw [HM.out]; have := HLM.out; show m ≤ 8 ^ (0 + 1); omega
    · obtain ⟨q, hq⟩ : ∃ q : Nat, 8 ^ (d0 + 1) = q := ⟨_, rfl⟩
      have HQ := hid hq
      have hdi : (d0 : Int) ≤ 13 := by have := HD.out; omega
      have c4 : w4.cell? ⟨b, 2, none⟩ = some (.int .i64 (m : Int)) := by
        rw [HB4.out.cell 2, List.getElem?_append_right (by rw [ptr_length]; exact Nat.le_refl _), ptr_length]; rfl
      have hd1 : (1 : Int) < (d0 : Int) + 1 + 1 := by omega
      have HD1 := hid hd1
      clear hd1
      go_wp2_with fail
      have hold : Facts.hold [(6, fun w' => w'.cell? ⟨b, 2, none⟩ = some (.int .i64 (m : Int)))] w4.drew := Facts.cons_hold c4 (Facts.nil_hold _)
      refine wpD_region hold (by kernel_rfl) 12 rfl ?_
      (refine wpD_plain 0 (v := ?_) rfl (by kernel_rfl) (by kernel_rfl) (by kernel_rfl) (fun _ _ _ h => h) (by rfl) ?_ (by assumption) ?_; rotate_left; (intro _w; go_simp; try with_reducible rfl); simp only [Act.put, List.setIfInBounds_toArray, List.set_cons_zero, List.set_cons_succ])
      (refine wpD_plain 1 (v := (.bool true)) rfl (by kernel_rfl) (by kernel_rfl) (by kernel_rfl) (fun _ _ _ h => h) (by rfl) ?_ (by assumption) ?_; (intro _w; go_simp; (have := HD1.out; simp; try omega)); simp only [Act.put, List.setIfInBounds_toArray, List.set_cons_zero, List.set_cons_succ])
      (refine wpD_plain 2 (v := ?_) rfl (by kernel_rfl) (by kernel_rfl) (by kernel_rfl) (fun _ _ _ h => h) (by rfl) ?_ (by assumption) ?_; rotate_left; (intro _w; go_simp; try with_reducible rfl); simp only [Act.put, List.setIfInBounds_toArray, List.set_cons_zero, List.set_cons_succ])
      (refine wpD_plain 3 (v := ?_) rfl (by kernel_rfl) (by kernel_rfl) (by kernel_rfl) (fun _ _ _ h => h) (by rfl) ?_ (by assumption) ?_; rotate_left; (intro _w; go_simp; try with_reducible rfl); simp only [Act.put, List.setIfInBounds_toArray, List.set_cons_zero, List.set_cons_succ])
      (refine wpD_plain 4 (v := ?_) rfl (by kernel_rfl) (by kernel_rfl) (by kernel_rfl) (fun _ _ _ h => h) (by rfl) ?_ (by assumption) ?_; rotate_left; (intro _w; go_simp; try with_reducible rfl); simp only [Act.put, List.setIfInBounds_toArray, List.set_cons_zero, List.set_cons_succ])
      (refine wpD_plain 5 (v := ?_) rfl (by kernel_rfl) (by kernel_rfl) (by kernel_rfl) (fun _ _ _ h => h) (by rfl) ?_ (by assumption) ?_; rotate_left; (intro _w; go_simp; try with_reducible rfl); simp only [Act.put, List.setIfInBounds_toArray, List.set_cons_zero, List.set_cons_succ])
      (refine wpD_take 6 _ rfl (by kernel_rfl) (by kernel_rfl) (by kernel_rfl) (fun _ _ _ h => h) List.mem_cons_self (by rfl) (v := ?_) ?_ (by assumption) ?_; rotate_left; (intro _w _hw; go_simp; try with_reducible rfl); simp only [Act.put, List.setIfInBounds_toArray, List.set_cons_zero, List.set_cons_succ])
      (refine wpD_plain 7 (v := ?_) rfl (by kernel_rfl) (by kernel_rfl) (by kernel_rfl) (fun _ _ _ h => h) (by rfl) ?_ (by assumption) ?_; rotate_left; (intro _w; go_simp; try with_reducible rfl); simp only [Act.put, List.setIfInBounds_toArray, List.set_cons_zero, List.set_cons_succ])
      (refine wpD_plain 8 (v := (.int .i64 ((d0 + 1 : Nat) : Int))) rfl (by kernel_rfl) (by kernel_rfl) (by kernel_rfl) (fun _ _ _ h => h) (by rfl) ?_ (by assumption) ?_; (intro _w; go_simp; (rw [IntKind.wrap_i64]; have := HD.out; omega)); simp only [Act.put, List.setIfInBounds_toArray, List.set_cons_zero, List.set_cons_succ])
      clear hold
      refine wpD_only 9 [(6, fun w' => w'.cell? ⟨b, 2, none⟩ = some (.int .i64 (m : Int)))] rfl (by kernel_rfl) (by kernel_rfl) (by rfl) (fun K5 hK5 => ?_)
      refine wp_call (.func 80) _ _ rfl 80 [] rfl (fun vs w => by kernel_rfl) [.int .i64 ((d0 + 1 : Nat) : Int)] (by rfl) ?_
      refine (capacity_any w4.drew (d0 + 1) q (by have := HD.out; omega) hq).mono ?_
      rintro e w5 ⟨rfl, f5⟩
      have F5 : Hid (Fr No w4 w5) := hid ((Fr.refl No w4).drew.trans' f5)
      have hold : Facts.hold [(6, fun w' => w'.cell? ⟨b, 2, none⟩ = some (.int .i64 (m : Int)))] w5 := Facts.cons_hold (F5.out.cell c4 id) (Facts.nil_hold _)
      refine ⟨_, rfl, hK5 _ _ hold ?_⟩
      clear hK5 K5 f5
      simp only [Act.put, List.setIfInBounds_toArray, List.set_cons_zero, List.set_cons_succ]
      (refine wpD_plain 10 (v := ?_) rfl (by kernel_rfl) (by kernel_rfl) (by kernel_rfl) (fun _ _ _ h => h) (by rfl) ?_ (by assumption) ?_; rotate_left; (intro _w; go_simp; try with_reducible rfl); simp only [Act.put, List.setIfInBounds_toArray, List.set_cons_zero, List.set_cons_succ])
      (refine wpD_plain 11 (v := ?_) rfl (by kernel_rfl) (by kernel_rfl) (by kernel_rfl) (fun _ _ _ h => h) (by rfl) ?_ (by assumption) ?_; rotate_left; (intro _w; go_simp; try with_reducible rfl); simp only [Act.put, List.setIfInBounds_toArray, List.set_cons_zero, List.set_cons_succ])
      clear hold
      refine wpD_done (by kernel_rfl) ?_ _
      try simp only [Act.put, List.setIfInBounds_toArray, List.set_cons_zero, List.set_cons_succ]
      have HB5 : Hid (Blk w5 b 136 (ptr (d0 + 1) t' ++ [.int .i64 (m : Int)])) := hid (HB4.out.fr F5.out id)
      have HR5 : Hid (Rep w5 (d0 + 1) t') := hid (HR4.out.no F5.out)
      have HFR5 : Hid (Fr (TD.fp ⟨d0 + 1, t, b⟩) w w5) := hid (HFR4.out.trans' F5.out.no)
      have hlow : 8 ^ (d0 + 1) < l.length := H.out.low.elim (fun e => by cases e) id
      have hcap : l.length ≤ 8 ^ (d0 + 1 + 1) := H.out.cap
      have HLOW := hid hlow; have HCAP := hid hcap
      clear c4 hlow hcap
      by_cases hmq : m ≤ q
      · have hmi : (m : Int) ≤ (q : Int) := by omega
        have hb0 := HSZ.out
        have hb1 := HS.out
        have HT2 : Hid (1 ≤ t'.l.length ∧ t'.l.length ≤ 1000000000000) := hid (by omega)
        clear hb0 hb1
        go_wp2_with ((with_reducible show wpList _ _ _ (⟨_, .load 134 _, _, _, _, _⟩ :: _) _ _); refine wpL_load rfl _ _ rfl b 0 rfl (ptr (d0 + 1) t') _ (HB5.out.range 0 _ (by simp [ptr_length])) rfl rfl (by rw [ptr_length]; exact info_p) ?_)
        refine (lowered_any d0 w5 t' ⟨#[]⟩ none HR5.out HO.out HG.out HT2.out.2 HT2.out.1).mono ?_
        rintro e w6 ⟨u, rfl, r1, r2, r3, r4, r5, r6, r7, r8⟩
        have R1 := hid r1; have R2 := hid r2; have R3 := hid r3; have R4 := hid r4; have R6 := hid r6
        have HB6 : Hid (Blk w6 b 136 (ptr (d0 + 1) t' ++ [.int .i64 (m : Int)])) := hid (HB5.out.fr r5 HOF.out)
        have HFR6 : Hid (Fr (TD.fp ⟨d0 + 1, t, b⟩) w w6) := hid (HFR5.out.trans r5 (fun k e => HGR.out k e))
        clear r1 r2 r3 r4 r5 r6 r7 r8
        go_wp2_with ((with_reducible show wpList _ _ _ (⟨_, .store 134 _ _, _, _, _, _⟩ :: _) _ _); refine wpL_storeV rfl _ _ _ rfl b 0 (val d0 u) (ptr d0 u) rfl rfl rfl _ _ HB6.out (by simp [ptr_length]) (by rw [ptr_length]; exact info_p) (ptr_one d0 u) ?_; intro w7 HB7 F7 HS7)
        go_ret
        have HGU : ∀ g, fp d0 u g → TD.fp ⟨d0 + 1, t, b⟩ g ∨ w.heap.size ≤ g := fun g hg => (R6.out g hg).elim (HGR.out g) (fun e => .inr (by have := HFR5.out.size; omega))
        have hnb : ¬ fp d0 u b := fun e => (R6.out _ e).elim HOF.out (fun e => by have := HB5.out.lt; omega)
        refine ⟨by first | rfl | (rw [hh]; rfl), ⟨d0, u, b⟩, rfl, ⟨?_, R1.out.fr F7.out (fun g hg e => hnb (by have e' : g = b := e; rw [← e']; exact hg)), R2.out, R3.out, R4.out.trans HFL.out, ?_, ?_, hnb⟩, HFR6.out.trans F7.out (fun k e => .inl (.inl e)), fun g hg => hg.elim (fun e => .inl (.inl e)) (HGU g)⟩
        · have := HB7.out
          rw [spl_root] at this
          rw [HM.out]
          exact this
        · rw [HM.out]; show m ≤ 8 ^ (d0 + 1); rw [HQ.out]; exact hmq
        · refine .inr ?_
          rw [HM.out]
          show 8 ^ d0 < m
          have h1 := HLOW.out
          have h2 := HLM.out
          have h3 : (8 : Nat) ^ (d0 + 1) = 8 ^ d0 * 8 := Nat.pow_succ _ _
          have h4 : 0 < 8 ^ d0 := Nat.pos_of_ne_zero (by simp)
          omega
      · have hmi : ¬ ((m : Int) ≤ (q : Int)) := by omega
        go_wp2
        go_ret
        refine ⟨by first | rfl | (rw [hh]; rfl), ⟨d0 + 1, t', b⟩, rfl, ⟨?_, HR5.out, HO.out, HG.out, HFL.out, ?_, ?_, HOF.out⟩, HFR5.out, fun g hg => hg.elim (fun e => .inl (.inl e)) (HGR.out g)⟩
        · rw [HM.out]; exact HB5.out
        · rw [HM.out]; have := HCAP.out; have := HLM.out; show m ≤ 8 ^ (d0 + 1 + 1); omega
        · refine .inr ?_
          rw [HM.out]; show 8 ^ (d0 + 1) < m; rw [HQ.out]; omega
end Go.Proofs.YtflfmkokfbgclaaGreat.TR

namespace Go.Proofs.YtflfmkokfbgclaaGreat.TR
set_option maxRecDepth 100000
open Go.RowKit K

/-- What a scan tells. -/
def scanS (fr to : S) (most : Int) (l : L) : L := if most < 1 then [] else (runS to most [] (ge fr l)).2
/-- New pairs. -/
def NewP (w : World) (l : L) (e : Ending) (w' : World) : Prop := ∃ pv, e = .returned pv ∧ w'.ownsRow w.heap.size 71 2 pv l.length (pcs l) ∧ Fr No w w'
theorem zero_prs (w : World) : (zeroValue 39).run Tryz.prog w = .ok (.slice none 0 0) w := by kernel_rfl
set_option maxHeartbeats 8000000 in
theorem tscan_any (w : World) (T : TD) (l : L) (fr to : S) (most : Int) (h : TrAt w T l) (hn : l.length ≤ 4398046511104) : Calls Tryz.prog 66 #[T.v, .string fr, .string to, .int .i64 most] w (NewP w (scanS fr to most l)) := by
  have H := hid h
  have HN := hid hn
  have mf := hmf
  clear h hn
  show Calls Tryz.prog _ #[.pointer (some ⟨T.b, 0, none⟩), .string fr, .string to, .int .i64 most] w _
  by_cases hm : most < 1
  · go_enter Tryz.func66, Tryz.ntmps66
    go_wp2_with (first
      | ((with_reducible show wpList _ _ _ (⟨_, .box 9 _, _, _, _, _⟩ :: _) _ _); refine wpL_box rfl _ _ rfl _ rfl [.string to] rfl ?_; intro w1 HB1 F1 HS1)
      | ((with_reducible show wpList _ _ _ (⟨_, .box 3 _, _, _, _, _⟩ :: _) _ _); refine wpL_box rfl _ _ rfl _ rfl [.int .i64 most] rfl ?_; intro w2 HB2 F2 HS2; have c2 : w2.cell? ⟨w1.heap.size, 0, none⟩ = some (.int .i64 most) := HB2.out.cell 0))
    go_ret
    have hs : scanS fr to most l = [] := by unfold scanS; rw [if_pos hm]
    rw [hs]
    exact ⟨_, rfl, ⟨rfl, .inl ⟨rfl, rfl⟩⟩, F1.out.trans' F2.out⟩
  · have HNM := hid hm
    go_enter Tryz.func66, Tryz.ntmps66
    go_wp2_with (first
      | ((with_reducible show wpList _ _ _ (⟨_, .box 9 _, _, _, _, _⟩ :: _) _ _); refine wpL_box rfl _ _ rfl _ rfl [.string to] rfl ?_; intro w1 HB1 F1 HS1)
      | ((with_reducible show wpList _ _ _ (⟨_, .box 3 _, _, _, _, _⟩ :: _) _ _); refine wpL_box rfl _ _ rfl _ rfl [.int .i64 most] rfl ?_; intro w2 HB2 F2 HS2; have c2 : w2.cell? ⟨w1.heap.size, 0, none⟩ = some (.int .i64 most) := HB2.out.cell 0)
      | ((with_reducible show wpList _ _ _ (⟨_, .alloc 39, _, _, _, _⟩ :: _) _ _); refine wpL_alloc rfl _ rfl _ zero_prs [.slice none 0 0] rfl ?_; intro w3 HB3 F3 HS3)
      | ((with_reducible show wpList _ _ _ (⟨_, .load 134 _, _, _, _, _⟩ :: _) _ _); refine wpL_load rfl _ _ rfl T.b 0 rfl (ptr T.d T.t) _ (((F1.out.trans' F2.out).trans' F3.out).range H.out.rg id) rfl rfl (by rw [ptr_length]; exact info_p) ?_))
    have HF3 : Hid (Fr No w w3) := hid ((F1.out.trans' F2.out).trans' F3.out)
    have HS : Hid (w.heap.size < w1.heap.size ∧ w1.heap.size < w2.heap.size ∧ w2.heap.size < w3.heap.size) := hid ⟨HB1.out.lt, HB2.out.lt, HB3.out.lt⟩
    have hps : PS w.heap.size w.heap.size w2.heap.size w1.heap.size to most [] (.slice none 0 0) w3 := by
      obtain ⟨s1, s2, s3⟩ := HS.out
      exact ⟨(HB1.out.fr F2.out id).fr F3.out id, HB2.out.fr F3.out id, HB3.out, ⟨rfl, .inl ⟨rfl, rfl⟩⟩, (by intro g hg; cases hg), by omega, by omega, by omega, by omega, by omega⟩
    have hgl := ge_le fr l
    have hfl : flat T.d T.t = l := H.out.fl
    refine (each_any T.d w.heap.size T.t w.heap.size w2.heap.size w1.heap.size to fr most [] (.slice none 0 0) w3 (H.out.rep.no HF3.out) (H.out.fine HN.out) (fun g hg => H.out.lt g (.inr hg)) hps (by rw [hfl]; have := HN.out; simpa using this)).mono ?_
    rintro e w4 ⟨rfl, pv, hp, hf, hg⟩
    rw [hfl] at hp ⊢
    have HP := hid hp
    have HF4 : Hid (Fr No w w4) := hid (HF3.out.trans hf (fun k hk => by
      obtain ⟨s1, s2, s3⟩ := HS.out
      rcases hk with e | e
      · exact .inr (by omega)
      · cases e))
    have c4 : w4.cell? ⟨w2.heap.size, 0, none⟩ = some pv := hp.p.cell 0
    clear hps hgl hfl hp hf hg c2
    go_wp2
    go_ret
    have hs : scanS fr to most l = (runS to most [] (ge fr l)).2 := by unfold scanS; rw [if_neg (by have := HNM.out; omega)]
    rw [hs]
    exact ⟨_, rfl, HP.out.r, HF4.out⟩
set_option maxHeartbeats 4000000 in
theorem tall_any (w : World) (T : TD) (l : L) (h : TrAt w T l) (hn : l.length ≤ 4398046511104) : Calls Tryz.prog 47 #[T.v] w (NewP w (scanS ⟨#[]⟩ ⟨#[]⟩ l.length l)) := by
  have H := hid h
  have HN := hid hn
  have c2 := h.ln
  clear h hn
  show Calls Tryz.prog _ #[.pointer (some ⟨T.b, 0, none⟩)] w _
  go_enter Tryz.func47, Tryz.ntmps47
  go_wp2_with fail
  refine (tscan_any w T l ⟨#[]⟩ ⟨#[]⟩ l.length H.out HN.out).mono ?_
  rintro e w2 ⟨pv, rfl, hr, hf⟩
  go_wp2
  go_ret
  exact ⟨_, rfl, hr, hf⟩
/-- A scan without bounds tells all. -/
theorem runS_all (l acc : L) (n : Nat) (h : acc.length + l.length ≤ n) : (runS ⟨#[]⟩ n acc l).2 = acc ++ l := by
  induction l generalizing acc with
  | nil => simp [runS]
  | cons x r ih =>
    have hs : stopB ⟨#[]⟩ x.1 = false := by simp [stopB]
    simp only [runS, hs]
    simp only [List.length_cons] at h
    cases r with
    | nil =>
      simp only [runS]
      rw [if_neg (by simp)]
      split <;> rfl
    | cons y r =>
      simp only [List.length_cons] at h
      rw [if_neg (by simp), if_pos (by omega), ih (acc ++ [x]) (by simp; omega)]
      simp
theorem ge_all (l : L) : ge ⟨#[]⟩ l = l := by
  unfold ge
  rw [List.filter_eq_self]
  intro x _
  simp [lt_empty]
theorem scan_all (l : L) : scanS ⟨#[]⟩ ⟨#[]⟩ l.length l = l := by
  unfold scanS
  rw [ge_all]
  cases l with
  | nil => rfl
  | cons x r =>
    rw [if_neg (by simp only [List.length_cons]; omega)]
    have := runS_all (x :: r) [] (x :: r).length (by simp)
    rw [this]; rfl
theorem tall_l (w : World) (T : TD) (l : L) (h : TrAt w T l) (hn : l.length ≤ 4398046511104) : Calls Tryz.prog 47 #[T.v] w (NewP w l) := by
  have := tall_any w T l h hn
  rwa [scan_all] at this
end Go.Proofs.YtflfmkokfbgclaaGreat.TR

namespace Go.Proofs.YtflfmkokfbgclaaGreat.TR
set_option maxRecDepth 100000
open Go.RowKit K

/-- A new tree. -/
def NewT (w : World) (l : L) (e : Ending) (w' : World) : Prop := ∃ T : TD, e = .returned T.v ∧ TrAt w' T l ∧ Fr No w w' ∧ ∀ g, T.fp g → w.heap.size ≤ g
end Go.Proofs.YtflfmkokfbgclaaGreat.TR

namespace Go.Proofs.YtflfmkokfbgclaaGreat.TR
set_option maxRecDepth 100000
open Go.RowKit K

/-- A list of pairs in memory. -/
def PrAt (w : World) (v : Value) (l : L) : Prop := ∃ a c, v = .slice a l.length c ∧ l.length ≤ 4398046511000 ∧ (l = [] ∨ ∃ g o, a = some ⟨g, o, none⟩ ∧ w.rangeAt g o (pcs l) ∧ g < w.heap.size)
theorem PrAt.fr {w w' : World} {v : Value} {l : L} {D : Nat → Prop} (h : PrAt w v l) (hf : Fr D w w') (hd : ∀ g, g < w.heap.size → ¬ D g) : PrAt w' v l := by
  obtain ⟨a, c, e, hn, h⟩ := h
  refine ⟨a, c, e, hn, h.imp id ?_⟩
  rintro ⟨g, o, e, hr, hg⟩
  exact ⟨g, o, e, hf.range hr (hd g hg), Nat.lt_of_lt_of_le hg hf.size⟩
theorem PrAt.no {w w' : World} {v : Value} {l : L} (h : PrAt w v l) (hf : Fr No w w') : PrAt w' v l := h.fr hf (fun _ _ e => e)
theorem pcs_get : ∀ (l : L) (j : Nat) (x : S × S), l[j]? = some x → ∀ i u, (pc x)[i]? = some u → (pcs l)[j * 2 + i]? = some u
  | [], _, _, h, _, _, _ => by simp at h
  | y :: r, 0, x, h, i, u, hu => by
    have e : y = x := by simpa using h
    subst e
    have hi : i < (pc y).length := (List.getElem?_eq_some_iff.1 hu).1
    show (pc y ++ pcs r)[0 * 2 + i]? = some u
    rw [List.getElem?_append_left (by omega), show 0 * 2 + i = i by omega]
    exact hu
  | y :: r, j + 1, x, h, i, u, hu => by
    have h2 := pcs_get r j x (by simpa using h) i u hu
    show (pc y ++ pcs r)[(j + 1) * 2 + i]? = some u
    have hl : (pc y).length = 2 := rfl
    rw [List.getElem?_append_right (by omega), hl, show (j + 1) * 2 + i - 2 = j * 2 + i by omega]
    exact h2
theorem range_pr {w : World} {g o : Nat} {l : L} (h : w.rangeAt g o (pcs l)) {j : Nat} {x : S × S} (hx : l[j]? = some x) : w.rangeAt g (o + j * 2) (pc x) := fun i u hu => by
  have := h (j * 2 + i) u (pcs_get l j x hx i u hu)
  rwa [show o + (j * 2 + i) = o + j * 2 + i by omega] at this
/-- Pairs in memory, at base or behind. -/
def PrNew (w : World) (base : Nat) (pv : Value) (l : L) : Prop := ∃ a c, pv = .slice a l.length c ∧ (l = [] ∨ ∃ g, a = some ⟨g, 0, none⟩ ∧ w.rangeAt g 0 (pcs l) ∧ base ≤ g ∧ g < w.heap.size)
theorem pr_new {w : World} {base : Nat} {pv : Value} {l : L} (h : w.ownsRow base 71 2 pv l.length (pcs l)) : PrNew w base pv l := by
  rcases h.2 with ⟨rfl, h0⟩ | ⟨g, cap, cur, rfl, hb, h1, h2, h3, h4, h5⟩
  · have : l = [] := List.eq_nil_of_length_eq_zero h0
    subst this
    exact ⟨none, 0, rfl, .inl rfl⟩
  · refine ⟨_, cap, rfl, .inr ⟨g, rfl, ?_, hb, (Array.getElem?_eq_some_iff.1 h1).1⟩⟩
    have hB : Blk w g 71 cur.toList := by simpa [Blk] using h1
    refine hB.range 0 _ ?_
    rw [List.drop_zero, pcs_length]
    exact h5
theorem PrNew.fr {w w' : World} {base : Nat} {pv : Value} {l : L} {D : Nat → Prop} (h : PrNew w base pv l) (hf : Fr D w w') (hd : ∀ g, base ≤ g → g < w.heap.size → ¬ D g) : PrNew w' base pv l := by
  obtain ⟨a, c, e, h⟩ := h
  refine ⟨a, c, e, h.imp id ?_⟩
  rintro ⟨g, e, hr, hb, hg⟩
  exact ⟨g, e, hf.range hr (hd g hb hg), hb, Nat.lt_of_lt_of_le hg hf.size⟩
/-- A tree made since w0, as it stands. -/
structure Lv (w0 w : World) (b : Nat) (T : TD) (l : L) : Prop where
  b : T.b = b
  at_ : TrAt w T l
  fr : Fr No w0 w
  ge : ∀ g, T.fp g → w0.heap.size ≤ g
abbrev pt (b : Nat) : Value := .pointer (some ⟨b, 0, none⟩)
theorem Lv.no {w0 w w' : World} {b : Nat} {T : TD} {l : L} (h : Lv w0 w b T l) (hf : Fr No w w') : Lv w0 w' b T l := ⟨h.b, h.at_.no hf, h.fr.trans' hf, h.ge⟩
theorem Lv.pre {w0 w w' : World} {b : Nat} {T : TD} {l : L} (hf : Fr No w0 w) (h : Lv w w' b T l) : Lv w0 w' b T l := ⟨h.b, h.at_, hf.trans' h.fr, fun g hg => Nat.le_trans hf.size (h.ge g hg)⟩
theorem Lv.v {w0 w : World} {b : Nat} {T : TD} {l : L} (h : Lv w0 w b T l) : T.v = pt b := by unfold TD.v; rw [h.b]
def Turns (w0 w : World) (b : Nat) (T : TD) (r : Bool) (l' : L) (e : Ending) (w' : World) : Prop :=
  e = .returned (.bool r) ∧ ∃ T', Lv w0 w' b T' l' ∧ Fr T.fp w w' ∧ ∀ g, T'.fp g → T.fp g ∨ w.heap.size ≤ g
theorem turns_of {w0 w : World} {b : Nat} {T : TD} {l l' : L} {r : Bool} (h : Lv w0 w b T l) {e : Ending} {w' : World} (hp : TPost w T r l' e w') : Turns w0 w b T r l' e w' := by
  obtain ⟨rfl, T', hb, ht, hf, hg⟩ := hp
  exact ⟨rfl, T', ⟨hb.trans h.b, ht, h.fr.trans hf (fun g hg => .inr (h.ge g hg)), fun g hg' => (hg g hg').elim (h.ge g) (fun e => Nat.le_trans h.fr.size e)⟩, hf, hg⟩
theorem Lv.put {w0 w : World} {b : Nat} {T : TD} {l : L} (h : Lv w0 w b T l) (hn : l.length ≤ 4398046511000) (key v : S) : Calls Tryz.prog 60 #[pt b, .string key, .string v] w (Turns w0 w b T (has key l) (put key v l)) := by
  have := tput_any w T l key v h.at_ hn
  rw [h.v] at this
  exact this.mono fun e w' hp => turns_of h hp
theorem Lv.del {w0 w : World} {b : Nat} {T : TD} {l : L} (h : Lv w0 w b T l) (hn : l.length ≤ 4398046511104) (key : S) : Calls Tryz.prog 59 #[pt b, .string key] w (Turns w0 w b T (has key l) (del key l)) := by
  have := tdel_any w T l key h.at_ hn
  rw [h.v] at this
  exact this.mono fun e w' hp => turns_of h hp
theorem Lv.get {w0 w : World} {b : Nat} {T : TD} {l : L} (h : Lv w0 w b T l) (hn : l.length ≤ 4398046511104) (key : S) : Calls Tryz.prog 74 #[pt b, .string key] w fun e w' => e = .returned (getV (get key l)) ∧ Lv w0 w' b T l ∧ Fr No w w' := by
  have := tget_any w T l key h.at_ hn
  rw [h.v] at this
  exact this.mono fun e w' ⟨he, hf⟩ => ⟨he, h.no hf, hf⟩
theorem Lv.depth {w0 w : World} {b : Nat} {T : TD} {l : L} (h : Lv w0 w b T l) (hn : l.length ≤ 4398046511104) : Calls Tryz.prog 79 #[pt b] w fun e w' => e = .returned (.int .i64 ((T.d + 1 : Nat) : Int)) ∧ Lv w0 w' b T l ∧ Fr No w w' := by
  have := tdepth_any w T l h.at_ hn
  rw [h.v] at this
  exact this.mono fun e w' ⟨he, hf⟩ => ⟨he, h.no hf, hf⟩
def Tells (w0 w : World) (b : Nat) (T : TD) (l l' : L) (e : Ending) (w' : World) : Prop := ∃ pv, e = .returned pv ∧ PrNew w' w.heap.size pv l' ∧ Lv w0 w' b T l ∧ Fr No w w'
theorem Lv.scan {w0 w : World} {b : Nat} {T : TD} {l : L} (h : Lv w0 w b T l) (hn : l.length ≤ 4398046511104) (fr to : S) (most : Int) : Calls Tryz.prog 66 #[pt b, .string fr, .string to, .int .i64 most] w (Tells w0 w b T l (scanS fr to most l)) := by
  have := tscan_any w T l fr to most h.at_ hn
  rw [h.v] at this
  exact this.mono fun e w' ⟨pv, he, hr, hf⟩ => ⟨pv, he, pr_new hr, h.no hf, hf⟩
theorem Lv.all {w0 w : World} {b : Nat} {T : TD} {l : L} (h : Lv w0 w b T l) (hn : l.length ≤ 4398046511104) : Calls Tryz.prog 47 #[pt b] w (Tells w0 w b T l l) := by
  have := tall_l w T l h.at_ hn
  rw [h.v] at this
  exact this.mono fun e w' ⟨pv, he, hr, hf⟩ => ⟨pv, he, pr_new hr, h.no hf, hf⟩
/-- A new tree, by its block. -/
def Makes (w : World) (l : L) (e : Ending) (w' : World) : Prop := ∃ b T, e = .returned (pt b) ∧ Lv w w' b T l
theorem makes_of {w : World} {l : L} {e : Ending} {w' : World} (h : NewT w l e w') : Makes w l e w' := by
  obtain ⟨T, rfl, ht, hf, hg⟩ := h
  exact ⟨T.b, T, rfl, rfl, ht, hf, hg⟩
theorem new_any (w : World) : Calls Tryz.prog 71 #[] w (Makes w []) := (tnew_any w).mono fun _ _ h => makes_of h
end Go.Proofs.YtflfmkokfbgclaaGreat.TR
