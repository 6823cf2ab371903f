/-
  Part 6 of the proof: ScF, ScG, DnS.
-/
import Derived.Test.YtdkkpfeiaaffhaaGreatDoorGa05
import Derived.Test.YtdkkpfeiaaffhaaGreatDoorGa04
import Derived.Laws.StructEq
set_option linter.unusedSimpArgs false
set_option linter.unusedVariables false
namespace Go.Proofs.YtdkkpfeiaaffhaaGreatDoor.SC
set_option maxRecDepth 100000
open Go.RowKit K Go.Proofs.YtdkkpfeiaaffhaaGreatDoor.BE Go.Proofs.YtdkkpfeiaaffhaaGreatDoor.DN

set_option maxHeartbeats 4000000 in
theorem slower_any (s : B) (hs : Sz s) (w : World) : Calls Tryz.prog 87 #[.string (sb s)] w fun e w' => e = .returned (.string (sb (low s))) ∧ Fr No w w' := by
  have hz : (sb s).size = s.length := sb_size s
  have hzl : (sb s).data.toList = s := sb_list s
  obtain ⟨S, hS⟩ : ∃ S, sb s = S := ⟨_, rfl⟩
  obtain ⟨n, hn⟩ : ∃ n, s.length = n := ⟨_, rfl⟩
  rw [hS] at hz hzl ⊢
  rw [hn] at hz
  have hni : (n : Int) ≤ 140737488351232 := by unfold Sz at hs; omega
  have HNN := hid hn; have HZL := hid hzl; have HZ := hid hz
  clear hs hz hzl hS hn
  go_enter Tryz.func87, Tryz.ntmps87
  go_wp2_with (first
    | ((with_reducible refine K.atO (.convert _ 119 _) ?_); refine wpL_bytesF rfl _ _ _ _ rfl S rfl Tryz.underlying9 Tryz.underlying119 Tryz.underlying5 ?_; intro cp z w1 hcp HB1 HF1; rw [HZ.out])
    | fail)
  obtain ⟨g, hg⟩ : ∃ g, w.heap.size = g := ⟨_, rfl⟩
  rw [hg] at HB1 ⊢
  rw [HZL.out] at HB1
  have HG := hid hg
  have HCP := hid hcp
  clear hg hcp
  go_loopw [10] (fun iv wr => ∃ (i : Nat), iv = .int .i64 i ∧ i ≤ n ∧ Hid (BlkF wr g 5 (u8s (low (s.take i) ++ s.drop i) ++ z) ∧ Fr No w wr)) (fun iv _ => n - (intOf iv).toNat)
  case atStart => exact ⟨0, rfl, Nat.zero_le _, hid ⟨by simpa [low] using HB1.out, HF1.out⟩⟩
  case round =>
    obtain ⟨i, rfl, hi, HI⟩ := hrel
    by_cases hlt : i < n
    · have hlti : (i : Int) < n := by omega
      have hi0 : (0 : Int) ≤ i := by omega
      obtain ⟨c, hc⟩ : ∃ c, s[i]? = some c := ⟨_, List.getElem?_eq_getElem (by rw [HNN.out]; exact hlt)⟩
      have hlow : (low (s.take i)).length = i := by rw [low_length, List.length_take, HNN.out]; omega
      have hcur : (u8s (low (s.take i) ++ s.drop i) ++ z)[i]? = some (.int .u8 (c.toNat : Int)) := by
        rw [List.getElem?_append_left (by rw [u8s_length, List.length_append, hlow, List.length_drop, HNN.out]; omega)]
        unfold u8s
        rw [List.getElem?_map, List.getElem?_append_right (by omega), hlow, Nat.sub_self, List.getElem?_drop, Nat.add_zero, hc]
        rfl
      have hcell : wr.cell? ⟨g, i, none⟩ = some (.int .u8 (c.toNat : Int)) := by rw [HI.out.1.cell]; exact hcur
      have hsplit : s.drop i = c :: s.drop (i + 1) := by
        have hl : i < s.length := by rw [HNN.out]; exact hlt
        rw [List.drop_eq_getElem_cons hl]
        rw [List.getElem?_eq_getElem hl] at hc
        rw [Option.some.inj hc]
      have htake : low (s.take (i + 1)) = low (s.take i) ++ [lo c] := by
        unfold low
        rw [List.take_add_one, hc]
        simp
      have hset : (u8s (low (s.take i) ++ s.drop i) ++ z).set i (.int .u8 ((lo c).toNat : Int)) = u8s (low (s.take (i + 1)) ++ s.drop (i + 1)) ++ z := by
        rw [htake, hsplit, u8s_append, List.append_assoc, List.set_append_right _ _ (by rw [u8s_length, hlow]; exact Nat.le_refl _), u8s_length, hlow, Nat.sub_self]
        simp [u8s]
      have hlen : i < (u8s (low (s.take i) ++ s.drop i) ++ z).length := (List.getElem?_eq_some_iff.1 hcur).1
      have HSET := hid hset; have HLEN := hid hlen
      have hlo := lo_nat c
      obtain ⟨xn, hxn⟩ : ∃ xn, c.toNat = xn := ⟨_, rfl⟩
      have hb := lt256 c
      rw [hxn] at hcell hlo hb
      have HLT := hid hlt
      have HFS : Hid (∀ w', Fr (fun k => k = g) wr w' → Fr No w w') := hid (fun w' h => HI.out.2.trans h (fun k e => .inr (by rw [HG.out]; have e : k = g := e; omega)))
      clear hcur hsplit htake hset hlen hc hlow hi hlt
      by_cases hup : 65 ≤ xn ∧ xn ≤ 90
      · rw [if_pos hup] at hlo
        have h1 : (65 : Int) ≤ xn := by omega
        have h2 : (xn : Int) ≤ 90 := by omega
        have HLO := hid hlo
        clear hup hlo hxn
        go_wp2_with (first
          | ((with_reducible refine K.atO (.store 5 _ _) ?_); refine wpL_setF rfl _ _ _ rfl g i (.int .u8 ((lo c).toNat : Int)) (by go_simp) (by rw [HLO.out]; exact congrArg (Value.int .u8) (by omega)) rfl rfl 5 _ HI.out.1 HLEN.out infoU8 ?_; intro w2 HB2 HF2)
          | fail)
        refine ⟨⟨i + 1, by go_num, HLT.out, hid ⟨by rw [← HSET.out]; exact HB2.out, HFS.out w2 HF2.out⟩⟩, ?_⟩
        have := HLT.out
        simp [intOf]; omega
      · rw [if_neg hup] at hlo
        have h1 : (xn : Int) < 65 ∨ (65 ≤ (xn : Int) ∧ ¬ (xn : Int) ≤ 90) := by omega
        have HSAME : Hid (BlkF wr g 5 (u8s (low (s.take (i + 1)) ++ s.drop (i + 1)) ++ z)) := hid (by
          rw [← HSET.out, hlo, ← hxn]
          have h := HI.out.1
          have hce := h.cell i
          rw [hxn] at *
          rw [hcell] at hce
          obtain ⟨hl, e⟩ := List.getElem?_eq_some_iff.1 hce.symm
          rw [← e, List.set_getElem_self]
          exact h)
        clear hup hlo hxn
        rcases h1 with h1 | ⟨h1, h2⟩
        all_goals
          go_wp2_with fail
          refine ⟨⟨i + 1, by go_num, HLT.out, hid ⟨HSAME.out, HI.out.2⟩⟩, ?_⟩
          have := HLT.out
          simp [intOf]; omega
    · obtain rfl : i = n := by omega
      have hB := HI.out.1
      rw [← HNN.out, List.take_length, List.drop_length, List.append_nil] at hB
      have hbi : BytesIn wr (fun _ => True) (.slice (some ⟨g, 0, none⟩) i cp) (low s) := by
        refine ⟨_, _, _, rfl, by rw [low_length]; exact HNN.out, (by have := HCP.out; rw [HZ.out] at this; exact this), .inr ⟨g, 0, rfl, trivial, hB.lt, ?_⟩⟩
        intro j v hj
        rw [Nat.zero_add, hB.cell, List.getElem?_append_left (List.getElem?_eq_some_iff.1 hj).1]
        exact hj
      have HBI := hid hbi
      clear hB hbi hi hlt
      go_wp2_with (first
        | ((with_reducible refine K.atO (.convert _ 9 _) ?_); refine wpL_stringOf rfl _ _ _ _ rfl _ _ (low s) rfl HBI.out Tryz.underlying119 Tryz.underlying5 Tryz.underlying9 ?_)
        | fail)
      go_ret
      exact ⟨rfl, HI.out.2⟩
set_option maxHeartbeats 4000000 in
theorem typeName_any (t : B) (r : List Value) (hr : r.length = 5) (w : World) : Calls Tryz.prog 103 #[.agg (Value.string (sb t) :: r).toArray] w fun e w' => e = .returned (.string (sb t)) ∧ Fr No w w' := by
  obtain ⟨r1, r2, r3, r4, r5, rfl⟩ : ∃ r1 r2 r3 r4 r5, r = [r1, r2, r3, r4, r5] := by
    match r, hr with
    | [r1, r2, r3, r4, r5], _ => exact ⟨r1, r2, r3, r4, r5, rfl⟩
  go_enter Tryz.func103, Tryz.ntmps103
  go_wp2_with (first
    | ((with_reducible refine K.atO (.box 62 _) ?_); refine wpL_box rfl _ _ rfl _ rfl [.string (sb t), r1, r2, r3, r4, r5] rfl ?_; intro w1 HB1 HF1 HS1; refine Hid.out ?_)
    | fail)
  obtain ⟨g, hg⟩ : ∃ g, w.heap.size = g := ⟨_, rfl⟩
  rw [hg] at HB1 ⊢
  have c0 : w1.cell? ⟨g, 0, none⟩ = some (.string (sb t)) := HB1.out.cell 0
  refine hid ?_
  go_wp2_with fail
  go_ret
  exact ⟨rfl, HF1.out⟩
set_option maxHeartbeats 4000000 in
theorem className_any (t : B) (r : List Value) (hr : r.length = 4) (w : World) : Calls Tryz.prog 107 #[.agg (Value.string (sb t) :: r).toArray] w fun e w' => e = .returned (.string (sb t)) ∧ Fr No w w' := by
  obtain ⟨r1, r2, r3, r4, rfl⟩ : ∃ r1 r2 r3 r4, r = [r1, r2, r3, r4] := by
    match r, hr with
    | [r1, r2, r3, r4], _ => exact ⟨r1, r2, r3, r4, rfl⟩
  go_enter Tryz.func107, Tryz.ntmps107
  go_wp2_with (first
    | ((with_reducible refine K.atO (.box 71 _) ?_); refine wpL_box rfl _ _ rfl _ rfl [.string (sb t), r1, r2, r3, r4] rfl ?_; intro w1 HB1 HF1 HS1; refine Hid.out ?_)
    | fail)
  obtain ⟨g, hg⟩ : ∃ g, w.heap.size = g := ⟨_, rfl⟩
  rw [hg] at HB1 ⊢
  have c0 : w1.cell? ⟨g, 0, none⟩ = some (.string (sb t)) := HB1.out.cell 0
  refine hid ?_
  go_wp2_with fail
  go_ret
  exact ⟨rfl, HF1.out⟩
theorem low_dec' (p q : B) : decide (low p = low q) = (low p == low q) := by
  rw [Bool.eq_iff_iff]
  simp
/-- What looks for a name: is it this one's? -/
theorem findTy1_any (n key : B) (r : List Value) (hr : r.length = 5) (b1 b2 : Nat) (w : World) (h1 : Blk w b1 155 [.func (.func 103) #[] #[]]) (h2 : Blk w b2 9 [.string (sb (low key))]) (hn : Sz n) :
    Calls Tryz.prog 148 #[.agg (Value.string (sb n) :: r).toArray, .pointer (some ⟨b1, 0, none⟩), .pointer (some ⟨b2, 0, none⟩)] w fun e w' => e = .returned (.bool (low n == low key)) ∧ Fr No w w' := by
  rw [← low_dec']
  have H1 := hid h1; have H2 := hid h2; have HN := hid hn
  have HI3 : Hid ((Tryz.prog.info? 62).map (·.size) = some (Value.string (sb n) :: r).length) := hid (by rw [List.length_cons, hr]; exact infoTy)
  have HR := hid hr
  clear h1 h2 hn hr
  go_enter Tryz.func148, Tryz.ntmps148
  go_wp2_with (first
    | ((with_reducible refine K.atO (.box 62 _) ?_); refine wpL_box rfl _ _ rfl _ rfl (Value.string (sb n) :: r) rfl ?_; intro w1 HB1 HF1 HS1)
    | fail)
  obtain ⟨g, hg⟩ : ∃ g, w.heap.size = g := ⟨_, rfl⟩
  rw [hg] at HB1 ⊢
  have HG : Hid (∀ k, k < w.heap.size → k ≠ g) := hid (fun k hk => by omega)
  clear hg
  have c1 : w1.cell? ⟨b1, 0, none⟩ = some (.func (.func 103) #[] #[]) := (H1.out.fr HF1.out id).cell 0
  have c2 : w1.cell? ⟨b2, 0, none⟩ = some (.string (sb (low key))) := (H2.out.fr HF1.out id).cell 0
  have c3 : w1.rangeAt g 0 (Value.string (sb n) :: r) := HB1.out.range 0 _ (by rw [List.drop_zero, List.take_length])
  have hold : Facts.hold [(0, fun w' => w'.cell? ⟨b1, 0, none⟩ = some (.func (.func 103) #[] #[])), (1, fun w' => w'.rangeAt g 0 (Value.string (sb n) :: r)), (4, fun w' => w'.cell? ⟨b2, 0, none⟩ = some (.string (sb (low key))))] w1.drew := Facts.cons_hold c1 (Facts.cons_hold c3 (Facts.cons_hold c2 (Facts.nil_hold _)))
  refine wpD_region hold (by kernel_rfl) 7 rfl ?_
  (refine wpD_take 0 _ rfl (by kernel_rfl) (by kernel_rfl) (by kernel_rfl) (fun _ _ _ h => h) List.mem_cons_self (by rfl) (v := ?_) ?_ (by assumption) ?_; rotate_left; (intro _w _hw; go_simp; try with_reducible rfl); simp only [Act.put, K.put3])
  (refine wpD_take 1 _ rfl (by kernel_rfl) (by kernel_rfl) (by kernel_rfl) (fun _ _ _ h => h) (List.mem_cons_of_mem _ List.mem_cons_self) (by rfl) (exec_load _ _ rfl g 0 rfl _ _ rfl rfl HI3.out) (by assumption) ?_; simp only [Act.put, K.put3])
  (refine wpD_take 4 _ rfl (by kernel_rfl) (by kernel_rfl) (by kernel_rfl) (fun _ _ _ h => h) (List.mem_cons_of_mem _ (List.mem_cons_of_mem _ List.mem_cons_self)) (by rfl) (v := ?_) ?_ (by assumption) ?_; rotate_left; (intro _w _hw; go_simp; try with_reducible rfl); simp only [Act.put, K.put3])
  clear hold
  refine wpD_only 2 [(4, fun w' => w'.cell? ⟨b2, 0, none⟩ = some (.string (sb (low key))))] rfl (by kernel_rfl) (by kernel_rfl) (by rfl) (fun K2 hK2 => ?_)
  refine wp_call _ [_] _ rfl 103 [] rfl (fun vs w => by kernel_rfl) [.agg (Value.string (sb n) :: r).toArray] (by rfl) ?_
  refine (typeName_any n r HR.out w1.drew).mono ?_
  rintro e w2 ⟨rfl, f2⟩
  have c22 : w2.cell? ⟨b2, 0, none⟩ = some (.string (sb (low key))) := f2.cell (show w1.drew.cell? _ = _ from c2) id
  have HF2 := hid (HF1.out.trans' ((Fr.refl No w1).drew.trans' f2))
  refine ⟨_, rfl, hK2 _ _ (Facts.cons_hold c22 (Facts.nil_hold _)) ?_⟩
  clear hK2 K2 f2
  simp only [Act.put, K.put3]
  refine wpD_only 3 [(4, fun w' => w'.cell? ⟨b2, 0, none⟩ = some (.string (sb (low key))))] rfl (by kernel_rfl) (by kernel_rfl) (by rfl) (fun K3 hK3 => ?_)
  refine wp_call _ _ _ rfl 87 [] rfl (fun vs w => by kernel_rfl) [.string (sb n)] (by rfl) ?_
  refine (slower_any n HN.out w2).mono ?_
  rintro e w3 ⟨rfl, f3⟩
  have c23 : w3.cell? ⟨b2, 0, none⟩ = some (.string (sb (low key))) := f3.cell c22 id
  have HF3 := hid (HF2.out.trans' f3)
  refine ⟨_, rfl, hK3 _ _ (Facts.cons_hold c23 (Facts.nil_hold _)) ?_⟩
  clear hK3 K3 f3
  simp only [Act.put, K.put3]
  have hold : Facts.hold [(4, fun w' => w'.cell? ⟨b2, 0, none⟩ = some (.string (sb (low key))))] w3 := Facts.cons_hold c23 (Facts.nil_hold _)
  (refine wpD_plain 5 (v := (.bool (decide (low n = low key)))) rfl (by kernel_rfl) (by kernel_rfl) (by kernel_rfl) (fun _ _ _ h => h) (by rfl) ?_ (by assumption) ?_; (intro _w; exact exec_eqS _ _ _ rfl _ _ rfl rfl _w); simp only [Act.put, K.put3])
  (refine wpD_plain 6 (v := ?_) rfl (by kernel_rfl) (by kernel_rfl) (by kernel_rfl) (fun _ _ _ h => h) (by rfl) ?_ (by assumption) ?_; rotate_left; (intro _w; go_simp; try with_reducible rfl); simp only [Act.put, K.put3])
  clear hold
  refine wpD_done (by kernel_rfl) ?_ _
  go_wp2_with fail
  go_ret
  exact ⟨rfl, HF3.out⟩
set_option maxHeartbeats 4000000 in
/-- The place of a name, or -1. -/
theorem findTy_any {S : Nat → Prop} (s : B) (v : Value) (X : List Ty) (w : World) (h : TysIn S w v X) (hs : Sz s) :
    Calls Tryz.prog 105 #[.string (sb s), v, .func (.func 103) #[] #[]] w fun e w' => e = .returned (.int .i64 (idxI X fun x => low x.nm == low s)) ∧ Fr No w w' := by
  have HX := hid h; have HS := hid hs
  obtain ⟨a, c, rfl, hcap, hl⟩ := h.form
  obtain ⟨R, hR⟩ : ∃ R, idxI X (fun x => low x.nm == low s) = R := ⟨_, rfl⟩
  rw [hR]
  have HR := hid hR
  obtain ⟨n, hn⟩ : ∃ n, X.length = n := ⟨_, rfl⟩
  rw [hn] at HX ⊢
  clear h hs hR hn hcap hl
  go_enter Tryz.func105, Tryz.ntmps105
  go_wp2_with (first
    | ((with_reducible refine K.atO (.box 155 _) ?_); refine wpL_box rfl _ _ rfl _ rfl [.func (.func 103) #[] #[]] rfl ?_; intro w1 HB1 HF1 HS1)
    | (go_at_call 87; refine (slower_any s HS.out _).mono ?_; rintro e w2 ⟨rfl, f2⟩; have HF2 := hid f2; clear f2)
    | ((with_reducible refine K.atO (.alloc 9) ?_); refine wpL_alloc rfl _ rfl _ zeroS [.string ⟨#[]⟩] rfl ?_; intro w3 HB3 HF3 HS3)
    | ((with_reducible refine K.atO (.store 9 _ _) ?_); refine wpL_setV rfl _ _ _ rfl _ 0 (.string (sb (low s))) rfl rfl rfl rfl _ _ HB3.out (by decide) infoS ?_; intro w4 HB4 HF4 HS4; refine Hid.out ?_)
    | fail)
  have hF := ((HF1.out.trans' HF2.out).trans' HF3.out)
  have hF4 : Fr No w w4 := hF.trans HF4.out (fun k e => .inr (by rw [e]; have := hF.size; have := HF2.out.size; have := HF1.out.size; have := HS1.out; omega))
  have hb1 : Blk w4 w.heap.size 155 [.func (.func 103) #[] #[]] := ((HB1.out.fr HF2.out id).fr HF3.out id).fr HF4.out (by show ¬ w.heap.size = w2.heap.size; have := HF2.out.size; have := HS1.out; omega)
  have hb2 : Blk w4 w2.heap.size 9 [.string (sb (low s))] := HB4.out
  obtain ⟨g1, hg1⟩ : ∃ g, w.heap.size = g := ⟨_, rfl⟩
  obtain ⟨g2, hg2⟩ : ∃ g, w2.heap.size = g := ⟨_, rfl⟩
  rw [hg1] at hb1 ⊢
  rw [hg2] at hb2 ⊢
  have H := hid (indexTy 148 [.pointer (some ⟨g1, 0, none⟩), .pointer (some ⟨g2, 0, none⟩)] (fun x : Ty => low x.nm == low s) (fun w x c => (fun _ _ => TyC) S w x c) No (fun w' => Fr No w4 w') S _ X w4 (fun w w' x c h hf => h) (fun _ _ _ e => e) (Fr.refl _ _) (HX.out.fr hF4 (fun _ _ _ e => e)) (fun vs w => by kernel_rfl)
    (fun x _ c wv hp hi hf => by
      obtain ⟨r, rfl, hr, hsz⟩ := (show ∃ r, c = Value.string (sb x.nm) :: r ∧ r.length = 5 ∧ Sz x.nm from ⟨_, hp.1, rfl, hp.2⟩)
      exact (findTy1_any x.nm s r hr g1 g2 wv (hb1.fr hf id) (hb2.fr hf id) hsz).mono fun e w' ⟨h1, h2⟩ => ⟨h1, hi.trans' h2, h2⟩))
  rw [HR.out] at H
  have HF4' := hid hF4
  clear hF hF4 hb1 hb2 hg1 hg2
  refine hid ?_
  go_wp2_with fail
  refine H.out.mono ?_
  rintro e w5 ⟨rfl, -, f5⟩
  have HF5 := hid f5
  clear f5
  go_wp2_with fail
  go_ret
  exact ⟨rfl, HF4'.out.trans' HF5.out⟩
/-- What looks for a name: is it this one's? -/
theorem findCl1_any (n key : B) (r : List Value) (hr : r.length = 4) (b1 b2 : Nat) (w : World) (h1 : Blk w b1 158 [.func (.func 107) #[] #[]]) (h2 : Blk w b2 9 [.string (sb (low key))]) (hn : Sz n) :
    Calls Tryz.prog 184 #[.agg (Value.string (sb n) :: r).toArray, .pointer (some ⟨b1, 0, none⟩), .pointer (some ⟨b2, 0, none⟩)] w fun e w' => e = .returned (.bool (low n == low key)) ∧ Fr No w w' := by
  rw [← low_dec']
  have H1 := hid h1; have H2 := hid h2; have HN := hid hn
  have HI3 : Hid ((Tryz.prog.info? 71).map (·.size) = some (Value.string (sb n) :: r).length) := hid (by rw [List.length_cons, hr]; exact infoCl)
  have HR := hid hr
  clear h1 h2 hn hr
  go_enter Tryz.func184, Tryz.ntmps184
  go_wp2_with (first
    | ((with_reducible refine K.atO (.box 71 _) ?_); refine wpL_box rfl _ _ rfl _ rfl (Value.string (sb n) :: r) rfl ?_; intro w1 HB1 HF1 HS1)
    | fail)
  obtain ⟨g, hg⟩ : ∃ g, w.heap.size = g := ⟨_, rfl⟩
  rw [hg] at HB1 ⊢
  have HG : Hid (∀ k, k < w.heap.size → k ≠ g) := hid (fun k hk => by omega)
  clear hg
  have c1 : w1.cell? ⟨b1, 0, none⟩ = some (.func (.func 107) #[] #[]) := (H1.out.fr HF1.out id).cell 0
  have c2 : w1.cell? ⟨b2, 0, none⟩ = some (.string (sb (low key))) := (H2.out.fr HF1.out id).cell 0
  have c3 : w1.rangeAt g 0 (Value.string (sb n) :: r) := HB1.out.range 0 _ (by rw [List.drop_zero, List.take_length])
  have hold : Facts.hold [(0, fun w' => w'.cell? ⟨b1, 0, none⟩ = some (.func (.func 107) #[] #[])), (1, fun w' => w'.rangeAt g 0 (Value.string (sb n) :: r)), (4, fun w' => w'.cell? ⟨b2, 0, none⟩ = some (.string (sb (low key))))] w1.drew := Facts.cons_hold c1 (Facts.cons_hold c3 (Facts.cons_hold c2 (Facts.nil_hold _)))
  refine wpD_region hold (by kernel_rfl) 7 rfl ?_
  (refine wpD_take 0 _ rfl (by kernel_rfl) (by kernel_rfl) (by kernel_rfl) (fun _ _ _ h => h) List.mem_cons_self (by rfl) (v := ?_) ?_ (by assumption) ?_; rotate_left; (intro _w _hw; go_simp; try with_reducible rfl); simp only [Act.put, K.put3])
  (refine wpD_take 1 _ rfl (by kernel_rfl) (by kernel_rfl) (by kernel_rfl) (fun _ _ _ h => h) (List.mem_cons_of_mem _ List.mem_cons_self) (by rfl) (exec_load _ _ rfl g 0 rfl _ _ rfl rfl HI3.out) (by assumption) ?_; simp only [Act.put, K.put3])
  (refine wpD_take 4 _ rfl (by kernel_rfl) (by kernel_rfl) (by kernel_rfl) (fun _ _ _ h => h) (List.mem_cons_of_mem _ (List.mem_cons_of_mem _ List.mem_cons_self)) (by rfl) (v := ?_) ?_ (by assumption) ?_; rotate_left; (intro _w _hw; go_simp; try with_reducible rfl); simp only [Act.put, K.put3])
  clear hold
  refine wpD_only 2 [(4, fun w' => w'.cell? ⟨b2, 0, none⟩ = some (.string (sb (low key))))] rfl (by kernel_rfl) (by kernel_rfl) (by rfl) (fun K2 hK2 => ?_)
  refine wp_call _ [_] _ rfl 107 [] rfl (fun vs w => by kernel_rfl) [.agg (Value.string (sb n) :: r).toArray] (by rfl) ?_
  refine (className_any n r HR.out w1.drew).mono ?_
  rintro e w2 ⟨rfl, f2⟩
  have c22 : w2.cell? ⟨b2, 0, none⟩ = some (.string (sb (low key))) := f2.cell (show w1.drew.cell? _ = _ from c2) id
  have HF2 := hid (HF1.out.trans' ((Fr.refl No w1).drew.trans' f2))
  refine ⟨_, rfl, hK2 _ _ (Facts.cons_hold c22 (Facts.nil_hold _)) ?_⟩
  clear hK2 K2 f2
  simp only [Act.put, K.put3]
  refine wpD_only 3 [(4, fun w' => w'.cell? ⟨b2, 0, none⟩ = some (.string (sb (low key))))] rfl (by kernel_rfl) (by kernel_rfl) (by rfl) (fun K3 hK3 => ?_)
  refine wp_call _ _ _ rfl 87 [] rfl (fun vs w => by kernel_rfl) [.string (sb n)] (by rfl) ?_
  refine (slower_any n HN.out w2).mono ?_
  rintro e w3 ⟨rfl, f3⟩
  have c23 : w3.cell? ⟨b2, 0, none⟩ = some (.string (sb (low key))) := f3.cell c22 id
  have HF3 := hid (HF2.out.trans' f3)
  refine ⟨_, rfl, hK3 _ _ (Facts.cons_hold c23 (Facts.nil_hold _)) ?_⟩
  clear hK3 K3 f3
  simp only [Act.put, K.put3]
  have hold : Facts.hold [(4, fun w' => w'.cell? ⟨b2, 0, none⟩ = some (.string (sb (low key))))] w3 := Facts.cons_hold c23 (Facts.nil_hold _)
  (refine wpD_plain 5 (v := (.bool (decide (low n = low key)))) rfl (by kernel_rfl) (by kernel_rfl) (by kernel_rfl) (fun _ _ _ h => h) (by rfl) ?_ (by assumption) ?_; (intro _w; exact exec_eqS _ _ _ rfl _ _ rfl rfl _w); simp only [Act.put, K.put3])
  (refine wpD_plain 6 (v := ?_) rfl (by kernel_rfl) (by kernel_rfl) (by kernel_rfl) (fun _ _ _ h => h) (by rfl) ?_ (by assumption) ?_; rotate_left; (intro _w; go_simp; try with_reducible rfl); simp only [Act.put, K.put3])
  clear hold
  refine wpD_done (by kernel_rfl) ?_ _
  go_wp2_with fail
  go_ret
  exact ⟨rfl, HF3.out⟩
set_option maxHeartbeats 4000000 in
/-- The place of a name, or -1. -/
theorem findCl_any {S : Nat → Prop} (s : B) (v : Value) (X : List Cl) (w : World) (h : ClsIn S w v X) (hs : Sz s) :
    Calls Tryz.prog 149 #[.string (sb s), v, .func (.func 107) #[] #[]] w fun e w' => e = .returned (.int .i64 (idxI X fun x => low x.nm == low s)) ∧ Fr No w w' := by
  have HX := hid h; have HS := hid hs
  obtain ⟨a, c, rfl, hcap, hl⟩ := h.form
  obtain ⟨R, hR⟩ : ∃ R, idxI X (fun x => low x.nm == low s) = R := ⟨_, rfl⟩
  rw [hR]
  have HR := hid hR
  obtain ⟨n, hn⟩ : ∃ n, X.length = n := ⟨_, rfl⟩
  rw [hn] at HX ⊢
  clear h hs hR hn hcap hl
  go_enter Tryz.func149, Tryz.ntmps149
  go_wp2_with (first
    | ((with_reducible refine K.atO (.box 158 _) ?_); refine wpL_box rfl _ _ rfl _ rfl [.func (.func 107) #[] #[]] rfl ?_; intro w1 HB1 HF1 HS1)
    | (go_at_call 87; refine (slower_any s HS.out _).mono ?_; rintro e w2 ⟨rfl, f2⟩; have HF2 := hid f2; clear f2)
    | ((with_reducible refine K.atO (.alloc 9) ?_); refine wpL_alloc rfl _ rfl _ zeroS [.string ⟨#[]⟩] rfl ?_; intro w3 HB3 HF3 HS3)
    | ((with_reducible refine K.atO (.store 9 _ _) ?_); refine wpL_setV rfl _ _ _ rfl _ 0 (.string (sb (low s))) rfl rfl rfl rfl _ _ HB3.out (by decide) infoS ?_; intro w4 HB4 HF4 HS4; refine Hid.out ?_)
    | fail)
  have hF := ((HF1.out.trans' HF2.out).trans' HF3.out)
  have hF4 : Fr No w w4 := hF.trans HF4.out (fun k e => .inr (by rw [e]; have := hF.size; have := HF2.out.size; have := HF1.out.size; have := HS1.out; omega))
  have hb1 : Blk w4 w.heap.size 158 [.func (.func 107) #[] #[]] := ((HB1.out.fr HF2.out id).fr HF3.out id).fr HF4.out (by show ¬ w.heap.size = w2.heap.size; have := HF2.out.size; have := HS1.out; omega)
  have hb2 : Blk w4 w2.heap.size 9 [.string (sb (low s))] := HB4.out
  obtain ⟨g1, hg1⟩ : ∃ g, w.heap.size = g := ⟨_, rfl⟩
  obtain ⟨g2, hg2⟩ : ∃ g, w2.heap.size = g := ⟨_, rfl⟩
  rw [hg1] at hb1 ⊢
  rw [hg2] at hb2 ⊢
  have H := hid (indexCl 184 [.pointer (some ⟨g1, 0, none⟩), .pointer (some ⟨g2, 0, none⟩)] (fun x : Cl => low x.nm == low s) (fun w x c => ClC S w x c) No (fun w' => Fr No w4 w') S _ X w4 (fun w w' x c h hf => h.fr hf (fun _ _ _ e => e)) (fun _ _ _ e => e) (Fr.refl _ _) (HX.out.fr hF4 (fun _ _ _ e => e)) (fun vs w => by kernel_rfl)
    (fun x _ c wv hp hi hf => by
      obtain ⟨r, rfl, hr, hsz⟩ := (show ∃ r, c = Value.string (sb x.nm) :: r ∧ r.length = 4 ∧ Sz x.nm from by obtain ⟨v1, v2, e, h1, -⟩ := hp; exact ⟨_, e, rfl, h1⟩)
      exact (findCl1_any x.nm s r hr g1 g2 wv (hb1.fr hf id) (hb2.fr hf id) hsz).mono fun e w' ⟨h1, h2⟩ => ⟨h1, hi.trans' h2, h2⟩))
  rw [HR.out] at H
  have HF4' := hid hF4
  clear hF hF4 hb1 hb2 hg1 hg2
  refine hid ?_
  go_wp2_with fail
  refine H.out.mono ?_
  rintro e w5 ⟨rfl, -, f5⟩
  have HF5 := hid f5
  clear f5
  go_wp2_with fail
  go_ret
  exact ⟨rfl, HF4'.out.trans' HF5.out⟩
end Go.Proofs.YtdkkpfeiaaffhaaGreatDoor.SC

namespace Go.Proofs.YtdkkpfeiaaffhaaGreatDoor.SC
set_option maxRecDepth 100000
open Go.RowKit K Go.Proofs.YtdkkpfeiaaffhaaGreatDoor.BE Go.Proofs.YtdkkpfeiaaffhaaGreatDoor.DN

theorem ty_eq (x y : Ty) : decide (x = y) = (decide (x.nm = y.nm) && (decide (x.syn = y.syn) && (decide (x.one = y.one) && (decide (x.shut = y.shut) && (decide (x.sys = y.sys) && decide (x.share = y.share)))))) := by
  rw [Bool.eq_iff_iff]
  cases x; cases y
  simp
theorem eqIn_ty (p q : Ty) (w : World) : (Op.equalIn 10000 62 (.agg (tyV p).toArray) (.agg (tyV q).toArray)).run Tryz.prog w = .ok (decide (p = q)) w := by
  rw [show (10000 : Nat) = 9999 + 1 from rfl, run_equalIn_struct w 9999 62 _ _ (by kernel_rfl) (by kernel_rfl)]
  have hf : Tryz.prog.fieldsOf 62 = match Tryz.prog.underlying 62 with | some (.struct fs) => fs | _ => #[] := rfl
  rw [hf, Tryz.underlying62]
  have e1 := run_equalIn_string (P := Tryz.prog) w 9998 9 (sb p.nm) (sb q.nm) Tryz.underlying9
  rw [neq_sb p.nm q.nm] at e1
  have i0 := fun (a b : Int) => run_equalIn_int (P := Tryz.prog) w 9998 3 .i64 .i64 a b Tryz.underlying3
  have b0 := fun (a b : Bool) => run_equalIn_bool (P := Tryz.prog) w 9998 4 a b Tryz.underlying4
  have c1 : Tryz.prog.cellsOf 9 = 1 := by kernel_rfl
  rw [ty_eq]
  unfold tyV
  simp [Op.eqFields, part, isAgg, run_underlying Tryz.underlying9, run_underlying Tryz.underlying3, run_underlying Tryz.underlying4, e1, i0, b0]
  obtain ⟨n, k, a, b, c, d⟩ := p
  obtain ⟨n', k', a', b', c', d'⟩ := q
  simp only
  by_cases h1 : n = n' <;> by_cases h2 : k = k' <;> simp [h1, h2]
  by_cases h3 : a = a' <;> by_cases h4 : b = b' <;> by_cases h5 : c = c' <;> by_cases h6 : d = d' <;> simp [h3, h4, h5, h6]
theorem exec_eqTy {op : Oper} {a : Act} (x y : Operand) (t2 : TypeId) (ho : op.op = .binOp .eql 62 x y t2) (p q : Ty) (r : Bool) (hr : decide (p = q) = r) (hx : a.eval x = .agg (tyV p).toArray) (hy : a.eval y = .agg (tyV q).toArray) (w : World) : (execOp a.eval op).run Tryz.prog w = .ok (.value (.bool r)) w := by
  have h : (binOp .eql 62 (.agg (tyV p).toArray) (.agg (tyV q).toArray)).run Tryz.prog w = .ok (.bool (decide (p = q))) w := by
    rw [run_eql_struct, eqIn_ty p q w]
    rfl
  have hg : (eqGuard .eql 62 x y (.agg (tyV p).toArray) (.agg (tyV q).toArray)).run Tryz.prog w = .ok () w := by kernel_rfl
  unfold execOp
  simp only [ho, hx, hy, Sem.run_bind, hg, h, Result.andThen_ok, hr, Sem.run_pure]
/-! ### Names -/
theorem idx_lt {α : Type} (f : α → B) (X : List α) (s : B) : decide (idxI X (fun x => low (f x) == low s) < 0) = (fnd (X.map f) s).isNone := by
  unfold idxI fnd
  rw [List.findIdx?_map]
  show _ = (X.findIdx? fun x => low (f x) == low s).isNone
  cases X.findIdx? fun x => low (f x) == low s with
  | none => rfl
  | some i => simp
theorem idx_some {α : Type} (f : α → B) {X : List α} {s : B} {i : Nat} (h : fnd (X.map f) s = some i) : idxI X (fun x => low (f x) == low s) = i := by
  unfold idxI
  unfold fnd at h
  rw [List.findIdx?_map] at h
  have h' : (X.findIdx? fun x => low (f x) == low s) = some i := h
  rw [h']
theorem idx_no {α : Type} (f : α → B) {X : List α} {s : B} (h : fnd (X.map f) s = none) : idxI X (fun x => low (f x) == low s) = -1 := by
  unfold idxI
  unfold fnd at h
  rw [List.findIdx?_map] at h
  have h' : (X.findIdx? fun x => low (f x) == low s) = none := h
  rw [h']
set_option maxHeartbeats 4000000 in
theorem isNewTy_any {S : Nat → Prop} (s : B) (v : Value) (X : List Ty) (w : World) (h : TysIn S w v X) (hs : Sz s) :
    Calls Tryz.prog 102 #[.string (sb s), v, .func (.func 103) #[] #[]] w fun e w' => e = .returned (.bool (newN (X.map (·.nm)) s)) ∧ Fr No w w' := by
  have HX := hid h; have HS := hid hs
  obtain ⟨a, c, rfl, hcap, hl⟩ := h.form
  obtain ⟨R, hR⟩ : ∃ R, newN (X.map (·.nm)) s = R := ⟨_, rfl⟩
  rw [hR]
  have HR : Hid ((typ s && (fnd (X.map (·.nm)) s).isNone) = R) := hid hR
  have HI : Hid (decide (idxI X (fun x => low x.nm == low s) < 0) = (fnd (X.map (·.nm)) s).isNone) := hid (idx_lt (·.nm) X s)
  have HF := hid (fun w' hf => findTy_any s (.slice a X.length c) X w' (TysIn.fr (D := No) HX.out hf (fun _ _ _ e => e)) HS.out)
  obtain ⟨m, hm⟩ : ∃ m, idxI X (fun x => low x.nm == low s) = m := ⟨_, rfl⟩
  rw [hm] at HI HF
  obtain ⟨n, hn⟩ : ∃ n, X.length = n := ⟨_, rfl⟩
  rw [hn] at HF ⊢
  clear h hs hR hm hn hcap hl HX
  go_enter Tryz.func102, Tryz.ntmps102
  go_wp2_with fail
  refine (type_any s w).mono ?_
  rintro e w1 ⟨rfl, f1⟩
  have HF1 := hid f1
  clear f1
  cases ht : typ s with
  | false =>
    obtain rfl : R = false := by have h := HR.out; rw [ht] at h; exact h.symm
    clear ht
    go_wp2_with fail
    go_ret
    exact ⟨rfl, HF1.out⟩
  | true =>
    have HR2 : Hid (decide (m < 0) = R) := hid (by have h := HR.out; rw [ht, ← HI.out] at h; exact h)
    clear ht
    go_wp2_with fail
    refine (HF.out _ HF1.out).mono ?_
    rintro e w2 ⟨rfl, f2⟩
    have HF2 := hid (HF1.out.trans' f2)
    clear f2
    go_wp2_with fail
    go_ret
    exact ⟨by rw [← HR2.out]; rfl, HF2.out⟩
set_option maxHeartbeats 4000000 in
theorem isNewCl_any {S : Nat → Prop} (s : B) (v : Value) (X : List Cl) (w : World) (h : ClsIn S w v X) (hs : Sz s) :
    Calls Tryz.prog 106 #[.string (sb s), v, .func (.func 107) #[] #[]] w fun e w' => e = .returned (.bool (newN (X.map (·.nm)) s)) ∧ Fr No w w' := by
  have HX := hid h; have HS := hid hs
  obtain ⟨a, c, rfl, hcap, hl⟩ := h.form
  obtain ⟨R, hR⟩ : ∃ R, newN (X.map (·.nm)) s = R := ⟨_, rfl⟩
  rw [hR]
  have HR : Hid ((typ s && (fnd (X.map (·.nm)) s).isNone) = R) := hid hR
  have HI : Hid (decide (idxI X (fun x => low x.nm == low s) < 0) = (fnd (X.map (·.nm)) s).isNone) := hid (idx_lt (·.nm) X s)
  have HF := hid (fun w' hf => findCl_any s (.slice a X.length c) X w' (ClsIn.fr (D := No) HX.out hf (fun _ _ _ e => e)) HS.out)
  obtain ⟨m, hm⟩ : ∃ m, idxI X (fun x => low x.nm == low s) = m := ⟨_, rfl⟩
  rw [hm] at HI HF
  obtain ⟨n, hn⟩ : ∃ n, X.length = n := ⟨_, rfl⟩
  rw [hn] at HF ⊢
  clear h hs hR hm hn hcap hl HX
  go_enter Tryz.func106, Tryz.ntmps106
  go_wp2_with fail
  refine (type_any s w).mono ?_
  rintro e w1 ⟨rfl, f1⟩
  have HF1 := hid f1
  clear f1
  cases ht : typ s with
  | false =>
    obtain rfl : R = false := by have h := HR.out; rw [ht] at h; exact h.symm
    clear ht
    go_wp2_with fail
    go_ret
    exact ⟨rfl, HF1.out⟩
  | true =>
    have HR2 : Hid (decide (m < 0) = R) := hid (by have h := HR.out; rw [ht, ← HI.out] at h; exact h)
    clear ht
    go_wp2_with fail
    refine (HF.out _ HF1.out).mono ?_
    rintro e w2 ⟨rfl, f2⟩
    have HF2 := hid (HF1.out.trans' f2)
    clear f2
    go_wp2_with fail
    go_ret
    exact ⟨by rw [← HR2.out]; rfl, HF2.out⟩
theorem build_ty (n : B) (w : World) : (Instr.build 62 #[(0, .string (sb n)), (1, .int .i64 1)]).run Tryz.prog w = .ok (.agg (tyV ⟨n, 1, false, false, false, false⟩).toArray) w := by kernel_rfl
theorem exec_buildTy {op : Oper} {a : Act} (x : Operand) (ho : op.op = .build 62 #[(0, x), (1, .const (.int .i64 1))]) (n : B) (hx : a.eval x = .string (sb n)) (w : World) : (execOp a.eval op).run Tryz.prog w = .ok (.value (.agg (tyV ⟨n, 1, false, false, false, false⟩).toArray)) w := by
  have h := build_ty n w
  have h1 : a.eval (.const (.int .i64 1)) = .int .i64 1 := rfl
  simp [execOp, ho, hx, h1, h, Result.andThen]
theorem rFirst_eq (t : Ty) : rFirst t = (decide (low t.nm = oc) && decide (t = ⟨t.nm, 1, false, false, false, false⟩)) := by
  unfold rFirst
  rw [ty_eq]
  obtain ⟨n, k, a, b, c, d⟩ := t
  congr 1
  simp only [decide_true, Bool.true_and]
  have e : (k == 1) = decide (k = 1) := by rw [Bool.eq_iff_iff]; simp
  rw [e]
  cases a <;> cases b <;> cases c <;> cases d <;> simp
set_option maxHeartbeats 4000000 in
theorem isRightFirst_any (t : Ty) (hz : Sz t.nm) (w : World) : Calls Tryz.prog 63 #[.agg (tyV t).toArray] w fun e w' => e = .returned (.bool (rFirst t)) ∧ Fr No w w' := by
  obtain ⟨R, hR⟩ : ∃ R, rFirst t = R := ⟨_, rfl⟩
  rw [hR]
  rw [rFirst_eq] at hR
  have HR := hid hR; have HZ := hid hz
  clear hR hz
  go_enter Tryz.func63, Tryz.ntmps63
  go_wp2_with (first
    | ((with_reducible refine K.atO (.box 62 _) ?_); refine wpL_box rfl _ _ rfl _ rfl (tyV t) rfl ?_; intro w1 HB1 HF1 HS1; refine Hid.out ?_)
    | fail)
  obtain ⟨g, hg⟩ : ∃ g, w.heap.size = g := ⟨_, rfl⟩
  rw [hg] at HB1 ⊢
  clear hg
  have c0 : w1.cell? ⟨g, 0, none⟩ = some (.string (sb t.nm)) := HB1.out.cell 0
  refine hid ?_
  go_wp2_with fail
  refine (slower_any t.nm HZ.out w1).mono ?_
  rintro e w2 ⟨rfl, f2⟩
  have HB2 := hid (HB1.out.fr f2 id)
  have c2 : w2.cell? ⟨g, 0, none⟩ = some (.string (sb t.nm)) := HB2.out.cell 0
  have HF2 := hid (HF1.out.trans' f2)
  have HR2 : Hid (w2.rangeAt g 0 (tyV t)) := hid (HB2.out.range 0 _ (by rw [List.drop_zero, List.take_length]))
  clear f2 c0
  obtain ⟨P, hP⟩ : ∃ P, decide (low t.nm = oc) = P := ⟨_, rfl⟩
  have HP := hid hP
  clear hP
  cases P with
  | false =>
    obtain rfl : R = false := by have h := HR.out; rw [HP.out] at h; exact h.symm
    go_wp2_with (first
      | ((with_reducible refine K.atO (.binOp .eql 9 _ _ _) ?_); refine wpL_valZ rfl (.bool false) (by rw [← HP.out]; exact exec_eqS _ _ _ rfl (low t.nm) oc rfl rfl w2) ?_)
      | fail)
    go_ret
    exact ⟨rfl, HF2.out⟩
  | true =>
    have HR3 : Hid (decide (t = ⟨t.nm, 1, false, false, false, false⟩) = R) := hid (by have h := HR.out; rw [HP.out] at h; exact h)
    go_wp2_with (first
      | ((with_reducible refine K.atO (.binOp .eql 9 _ _ _) ?_); refine wpL_valZ rfl (.bool true) (by rw [← HP.out]; exact exec_eqS _ _ _ rfl (low t.nm) oc rfl rfl w2) ?_)
      | ((with_reducible refine K.atO (.load 62 _) ?_); refine wpL_valZ rfl (.agg (tyV t).toArray) (exec_load _ _ rfl g 0 rfl (tyV t) _ rfl rfl infoTy w2 HR2.out) ?_)
      | ((with_reducible refine K.atO (.build 62 _) ?_); refine wpL_valZ rfl (.agg (tyV ⟨t.nm, 1, false, false, false, false⟩).toArray) (exec_buildTy _ rfl t.nm rfl w2) ?_)
      | ((with_reducible refine K.atO (.binOp .eql 62 _ _ _) ?_); refine wpL_valZ rfl (.bool R) (exec_eqTy _ _ _ rfl t ⟨t.nm, 1, false, false, false, false⟩ R HR3.out rfl rfl w2) ?_)
      | fail)
    go_ret
    exact ⟨rfl, HF2.out⟩
end Go.Proofs.YtdkkpfeiaaffhaaGreatDoor.SC

namespace Go.Proofs.YtdkkpfeiaaffhaaGreatDoor.DN
set_option maxRecDepth 100000
open Go.RowKit K Go.Proofs.YtdkkpfeiaaffhaaGreatDoor.BE

theorem low_dec (p q : B) : decide (low p = low q) = (low p == low q) := by
  rw [Bool.eq_iff_iff]
  simp
set_option maxHeartbeats 4000000 in
theorem again_any (t u t0 u0 : B) (b : Nat) (w : World) (hb : Blk w b 179 [.string (sb t0), .string (sb u0)]) (h1 : Sz t) (h2 : Sz t0) :
    Calls Tryz.prog 187 #[.agg #[.string (sb t), .string (sb u)], .pointer (some ⟨b, 0, none⟩)] w fun e w' => e = .returned (.bool (low t == low t0)) ∧ Fr No w w' := by
  rw [← low_dec]
  have HB := hid hb; have H1 := hid h1; have H2 := hid h2
  clear hb h1 h2
  go_enter Tryz.func187, Tryz.ntmps187
  go_wp2_with (first
    | ((with_reducible refine K.atO (.box 179 _) ?_); refine wpL_box rfl _ _ rfl _ rfl [.string (sb t), .string (sb u)] rfl ?_; intro w1 HB1 HF1 HS1)
    | fail)
  obtain ⟨g, hg⟩ : ∃ g, w.heap.size = g := ⟨_, rfl⟩
  rw [hg] at HB1 ⊢
  have c0 : w1.cell? ⟨g, 0, none⟩ = some (.string (sb t)) := HB1.out.cell 0
  have c1 : w1.cell? ⟨b, 0, none⟩ = some (.string (sb t0)) := (HB.out.fr HF1.out id).cell 0
  have hold : Facts.hold [(1, fun w' => w'.cell? ⟨g, 0, none⟩ = some (.string (sb t))), (4, fun w' => w'.cell? ⟨b, 0, none⟩ = some (.string (sb t0)))] w1.drew := Facts.cons_hold c0 (Facts.cons_hold c1 (Facts.nil_hold _))
  refine wpD_region hold (by kernel_rfl) 8 rfl ?_
  (refine wpD_plain 0 (v := ?_) rfl (by kernel_rfl) (by kernel_rfl) (by kernel_rfl) (fun _ _ _ h => h) (by rfl) ?_ (by assumption) ?_; rotate_left; (intro _w; go_simp; try with_reducible rfl); simp only [Act.put, K.put3])
  (refine wpD_plain 3 (v := ?_) rfl (by kernel_rfl) (by kernel_rfl) (by kernel_rfl) (fun _ _ _ h => h) (by rfl) ?_ (by assumption) ?_; rotate_left; (intro _w; go_simp; try with_reducible rfl); simp only [Act.put, K.put3])
  (refine wpD_take 1 _ rfl (by kernel_rfl) (by kernel_rfl) (by kernel_rfl) (fun _ _ _ h => h) List.mem_cons_self (by rfl) (v := ?_) ?_ (by assumption) ?_; rotate_left; (intro _w _hw; go_simp; try with_reducible rfl); simp only [Act.put, K.put3])
  (refine wpD_take 4 _ rfl (by kernel_rfl) (by kernel_rfl) (by kernel_rfl) (fun _ _ _ h => h) (List.mem_cons_of_mem _ List.mem_cons_self) (by rfl) (v := ?_) ?_ (by assumption) ?_; rotate_left; (intro _w _hw; go_simp; try with_reducible rfl); simp only [Act.put, K.put3])
  clear hold
  refine wpD_only 2 [(4, fun w' => w'.cell? ⟨b, 0, none⟩ = some (.string (sb t0)))] rfl (by kernel_rfl) (by kernel_rfl) (by rfl) (fun K2 hK2 => ?_)
  refine wp_call _ _ _ rfl 99 [] rfl (fun vs w => by kernel_rfl) [.string (sb t)] (by rfl) ?_
  refine (lower_str t H1.out w1.drew).mono ?_
  rintro e w2 ⟨rfl, f2⟩
  have c12 : w2.cell? ⟨b, 0, none⟩ = some (.string (sb t0)) := f2.cell (show w1.drew.cell? _ = _ from c1) id
  have HF2 := hid (HF1.out.trans' ((Fr.refl No w1).drew.trans' f2))
  refine ⟨_, rfl, hK2 _ _ (Facts.cons_hold c12 (Facts.nil_hold _)) ?_⟩
  clear hK2 K2 f2
  simp only [Act.put, K.put3]
  refine wpD_only 5 [] rfl (by kernel_rfl) (by kernel_rfl) (by rfl) (fun K5 hK5 => ?_)
  refine wp_call _ _ _ rfl 99 [] rfl (fun vs w => by kernel_rfl) [.string (sb t0)] (by rfl) ?_
  refine (lower_str t0 H2.out w2).mono ?_
  rintro e w3 ⟨rfl, f3⟩
  have HF3 := hid (HF2.out.trans' f3)
  refine ⟨_, rfl, hK5 _ _ (Facts.nil_hold _) ?_⟩
  clear hK5 K5 f3
  simp only [Act.put, K.put3]
  have hold : Facts.hold [] w3 := Facts.nil_hold _
  (refine wpD_plain 6 (v := (.bool (decide (low t = low t0)))) rfl (by kernel_rfl) (by kernel_rfl) (by kernel_rfl) (fun _ _ _ h => h) (by rfl) ?_ (by assumption) ?_; (intro _w; exact exec_eqS _ _ _ rfl _ _ rfl rfl _w); simp only [Act.put, K.put3])
  (refine wpD_plain 7 (v := ?_) rfl (by kernel_rfl) (by kernel_rfl) (by kernel_rfl) (fun _ _ _ h => h) (by rfl) ?_ (by assumption) ?_; rotate_left; (intro _w; go_simp; try with_reducible rfl); simp only [Act.put, K.put3])
  clear hold
  refine wpD_done (by kernel_rfl) ?_ _
  go_wp2_with fail
  go_ret
  exact ⟨rfl, HF3.out⟩
theorem Sl.take {α : Type} {k : Nat} {p : α → List Value → Prop} {S : Nat → Prop} {w : World} {a : Option Addr} {len cap : Nat} {xs : List α} (h : Sl k p S w (.slice a len cap) xs) (i : Nat) (hi : i ≤ len) : Sl k p S w (.slice a i cap) (xs.take i) := by
  obtain ⟨a, c, h1, h2, h3, h4⟩ := h
  simp only [Value.slice.injEq] at h1
  obtain ⟨rfl, rfl, rfl⟩ := h1
  have hl : (xs.take i).length = i := by rw [List.length_take]; omega
  refine ⟨_, _, by rw [hl], by rw [hl]; omega, by rw [hl]; omega, ?_⟩
  by_cases h0 : xs.take i = []
  · exact .inl h0
  · right
    have hne : xs ≠ [] := fun e => h0 (by rw [e]; simp)
    obtain ⟨g, o, L, e, hS, hg, hr, hL, hc, hp⟩ := h4.resolve_left hne
    refine ⟨g, o, L.take i, e, hS, hg, ?_, by rw [List.length_take, hL, hl]; omega, fun c hcm => hc c (List.mem_of_mem_take hcm), fun j x c hx hcj => ?_⟩
    · intro j u hj
      refine hr j u ?_
      have hs : L.flatten = (L.take i).flatten ++ (L.drop i).flatten := by rw [← List.flatten_append, List.take_append_drop]
      rw [hs, List.getElem?_append_left (List.getElem?_eq_some_iff.1 hj).1]
      exact hj
    · have hji : j < i := by have := (List.getElem?_eq_some_iff.1 hx).1; omega
      rw [List.getElem?_take, if_pos hji] at hx hcj
      exact hp j x c hx hcj
set_option maxHeartbeats 4000000 in
theorem isWrong_any (E : Nat → Prop) (v : Value) (r : Rd) (w : World) (h : RdIn E w v r) : Calls Tryz.prog 153 #[v] w fun e w' => e = .returned (.bool (!okStep r)) ∧ Fr No w w' := by
  obtain ⟨a, cp, rfl, hcp, hl0⟩ := h.form
  have HX := hid h
  obtain ⟨n, hn⟩ : ∃ n, r.length = n := ⟨_, rfl⟩
  obtain ⟨R, hR⟩ : ∃ R, (!okStep r) = R := ⟨_, rfl⟩
  rw [hR]
  rw [hn] at HX hl0 hcp ⊢
  have HNN := hid hn
  by_cases h0 : n = 0 ∨ 4 < n
  · have hRt : R = true := by
      rw [← hR]
      unfold okStep
      rcases h0 with h0 | h0
      · rw [decide_eq_false (show ¬ 1 ≤ r.length by omega)]; rfl
      · rw [decide_eq_false (show ¬ r.length ≤ 4 by omega)]; simp
    subst hRt
    rcases h0 with rfl | h0
    · clear hR hn h
      go_enter Tryz.func153, Tryz.ntmps153
      go_wp2
      go_ret
      exact ⟨rfl, Fr.refl _ _⟩
    · have h1 : (4 : Int) < n := by omega
      have h2 : ¬ (n : Int) = 0 := by omega
      clear hR hn h h0
      go_enter Tryz.func153, Tryz.ntmps153
      go_wp2
      go_ret
      exact ⟨rfl, Fr.refl _ _⟩
  · have hRt : (!typs [] r) = R := by
      rw [← hR]
      unfold okStep
      rw [decide_eq_true (show 1 ≤ r.length by omega), decide_eq_true (show r.length ≤ 4 by omega)]
      rfl
    have HRT : Hid ((!typs (r.take 0) (r.drop 0)) = R) := hid hRt
    have h1 : ¬ (4 : Int) < n := by omega
    have h2 : ¬ (n : Int) = 0 := by omega
    have h4 : (n : Int) ≤ 4 := by omega
    have hcpi : (n : Int) ≤ cp := by omega
    clear hR hRt hn h h0
    go_enter Tryz.func153, Tryz.ntmps153
    go_wp2_with fail
    go_loopw [16] (fun iv wr => ∃ (i : Nat), iv = .int .i64 i ∧ i ≤ n ∧ Hid (Fr No w wr) ∧ Hid ((!typs (r.take i) (r.drop i)) = R)) (fun iv _ => n - (intOf iv).toNat)
    case atStart => exact ⟨0, rfl, Nat.zero_le _, hid (Fr.refl _ _), HRT⟩
    case round =>
      obtain ⟨i, rfl, hi, HF, HT⟩ := hrel
      by_cases hlt : i < n
      · obtain ⟨x, hx⟩ : ∃ x, r[i]? = some x := ⟨_, List.getElem?_eq_getElem (by rw [HNN.out]; exact hlt)⟩
        have hlti : (i : Int) < n := by omega
        have hi0 : (0 : Int) ≤ i := by omega
        have hicp : (i : Int) ≤ cp := by omega
        obtain ⟨g, o, cq, c, e1, -, hgw, hrr, hc, hxa⟩ := (RdIn.no HX.out HF.out).get hx
        rw [HNN.out] at e1
        simp only [Value.slice.injEq, true_and] at e1
        obtain ⟨rfl, rfl⟩ := e1
        obtain ⟨rfl, hs1, hs2⟩ := hxa
        have HRR := hid hrr; have HS1 := hid hs1
        have hdrop : r.drop i = x :: r.drop (i + 1) := by
          have hl : i < r.length := by rw [HNN.out]; exact hlt
          rw [List.drop_eq_getElem_cons hl]
          rw [List.getElem?_eq_getElem hl] at hx
          rw [Option.some.inj hx]
        have htake : r.take (i + 1) = r.take i ++ [x] := by rw [List.take_add_one, hx]; rfl
        have HT2 : Hid ((!(typ x.1 && !dup (r.take i) x.1 && typs (r.take (i + 1)) (r.drop (i + 1)))) = R) := hid (by
          have h := HT.out
          rw [hdrop] at h
          rw [htake]
          exact h)
        have HLT := hid hlt
        have HSUB : Hid (∀ w', Fr No w w' → Sl 2 AvC E w' (.slice (some ⟨g, o, none⟩) i cp) (r.take i)) := hid (fun w' hf => Sl.take (RdIn.no HX.out hf) i (Nat.le_of_lt HLT.out))
        clear hc hgw hrr hs1 hs2 hx hdrop htake HT hi hlt
        go_wp2_with (first
          | ((with_reducible refine K.atO (.load 179 _) ?_); refine wpL_load rfl _ _ rfl g (o + i * 2) rfl [.string (sb x.1), .string (sb x.2)] _ HRR.out rfl rfl infoAv ?_)
          | ((with_reducible refine K.atO (.alloc 179) ?_); refine wpList_plain rfl fun K1 hK1 => ?_; refine wp_alloc 179 rfl (.agg #[.string ⟨#[]⟩, .string ⟨#[]⟩]) (fun _ => by kernel_rfl) [.string ⟨#[]⟩, .string ⟨#[]⟩] rfl ?_; intro w2 HB2 HF2 HS2; refine hK1 _ _ ?_; clear hK1 K1)
          | ((with_reducible refine K.atO (.store 179 _ _) ?_); refine wpL_store rfl _ _ _ rfl wr.heap.size 0 [.string (sb x.1), .string (sb x.2)] rfl rfl 179 _ HB2.out (by simp) infoAv (by simp [Value.oneCell']) ?_; intro w3 HB3 HF3 HS3;
              (have hcell3 : w3.cell? ⟨wr.heap.size, 0, none⟩ = some (.string (sb x.1)) := HB3.out.cell 0))
          | fail)
        have HFR3 : Hid (Fr No wr w3) := hid (HF2.out.trans HF3.out fun k e => .inr (by have e : k = wr.heap.size := e; omega))
        have HBK : Hid (Blk w3 wr.heap.size 179 [.string (sb x.1), .string (sb x.2)]) := hid (by simpa [spl] using HB3.out)
        refine (type_any x.1 w3).mono ?_
        rintro e w4 ⟨rfl, f4⟩
        have HFR4 := hid (HF.out.trans' (HFR3.out.trans' f4))
        have HBK4 := hid (HBK.out.fr f4 id)
        clear f4 hcell3
        cases ht : typ x.1 with
        | false =>
          have hRf : R = true := by have h := HT2.out; rw [ht] at h; exact h.symm
          subst hRf
          clear ht
          go_wp2_with fail
          go_ret
          exact ⟨rfl, HFR4.out⟩
        | true =>
          obtain ⟨b, hb⟩ : ∃ b, wr.heap.size = b := ⟨_, rfl⟩
          rw [hb] at HBK4 ⊢
          have HC := hid (containsAv (α := Av) 187 [.pointer (some ⟨b, 0, none⟩)] (fun a => low a.1 == low x.1) (fun w' a c => AvC a c ∧ Blk w' b 179 [.string (sb x.1), .string (sb x.2)]) E (.slice (some ⟨g, o, none⟩) i cp) (r.take i) w4
            (fun w w' a c h hf => ⟨h.1, h.2.fr hf id⟩) (Sl.fr (HSUB.out w4 HFR4.out) (Fr.refl No w4) (fun _ _ _ e => e) (fun a c _ h => ⟨h, HBK4.out⟩)) (fun _ _ => by kernel_rfl)
            (fun a _ c wv hp _ => by
              obtain ⟨⟨rfl, hz1, -⟩, hbk⟩ := hp
              exact again_any a.1 a.2 x.1 x.2 b wv hbk hz1 HS1.out))
          clear hb
          go_wp2_with fail
          refine HC.out.mono ?_
          rintro e w5 ⟨rfl, f5⟩
          have HFR5 := hid (HFR4.out.trans' f5)
          clear f5
          cases hd : dup (r.take i) x.1 with
          | true =>
            have hRf : R = true := by have h := HT2.out; rw [ht, hd] at h; exact h.symm
            subst hRf
            have hd2 : ((r.take i).any fun a => low a.1 == low x.1) = true := hd
            rw [hd2]
            clear ht hd hd2
            go_wp2_with fail
            go_ret
            exact ⟨rfl, HFR5.out⟩
          | false =>
            have HT3 : Hid ((!typs (r.take (i + 1)) (r.drop (i + 1))) = R) := hid (by have h := HT2.out; rw [ht, hd] at h; exact h)
            have hd2 : ((r.take i).any fun a => low a.1 == low x.1) = false := hd
            rw [hd2]
            clear ht hd hd2
            go_wp2_with fail
            refine ⟨⟨i + 1, by go_num, HLT.out, HFR5, HT3⟩, ?_⟩
            have := HLT.out
            simp [intOf]; omega
      · obtain rfl : i = n := by omega
        have hRf : R = false := by
          have h := HT.out
          rw [← HNN.out, List.drop_length] at h
          exact h.symm
        subst hRf
        go_wp2_with fail
        go_ret
        exact ⟨rfl, HF.out⟩
theorem isBuilt_any (E : Nat → Prop) (v : Value) (n : Nm) (w : World) (h : NmIn E w v n) : Calls Tryz.prog 111 #[v] w fun e w' => e = .returned (.bool (built n)) ∧ Fr No w w' := by
  have HC := hid (containsRd (α := Rd) 153 [] (fun r => !okStep r) (fun w' r v => RdIn E w' v r) E v n w (fun w w' r v h hf => h.no hf) h (fun _ _ => by kernel_rfl)
    (fun r _ v wv hp _ => isWrong_any E v r wv hp))
  have hany : (n.any fun r => !okStep r) = !n.all okStep := by
    rw [List.all_eq_not_any_not]
    simp
  rw [hany] at HC
  obtain ⟨a, cp, rfl, -, hl0⟩ := h.form
  obtain ⟨m, hm⟩ : ∃ m, n.length = m := ⟨_, rfl⟩
  unfold built
  rw [hm] at HC ⊢
  clear h hany hm
  by_cases h16 : m ≤ 16
  · rw [decide_eq_true h16]
    have h1 : (m : Int) ≤ 16 := by omega
    clear h16
    go_enter Tryz.func111, Tryz.ntmps111
    go_wp2_with fail
    refine HC.out.mono ?_
    rintro e w1 ⟨rfl, f1⟩
    have HF := hid f1
    clear f1
    cases hq : n.all okStep with
    | true =>
      have HQ := hid hq
      clear hq
      go_wp2_with fail
      go_ret
      exact ⟨by rw [HQ.out]; rfl, HF.out⟩
    | false =>
      have HQ := hid hq
      clear hq
      go_wp2_with fail
      go_ret
      exact ⟨by rw [HQ.out]; rfl, HF.out⟩
  · rw [decide_eq_false h16]
    have h1 : ¬ (m : Int) ≤ 16 := by omega
    clear h16 HC
    go_enter Tryz.func111, Tryz.ntmps111
    go_wp2
    go_ret
    exact ⟨rfl, Fr.refl _ _⟩
end Go.Proofs.YtdkkpfeiaaffhaaGreatDoor.DN
