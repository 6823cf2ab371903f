/-
  slices.Delete, slices.Clone at elements of 2 cells (palatine/tree.part).
-/
import Derived.Test.YtlnolnaapnijbaaTrLp
namespace Go.Proofs.Ytlnolnaapnijbaa.TR
set_option maxRecDepth 100000
open Go.RowKit K

theorem one_p : ∀ v ∈ ((.agg #[.pointer none, .pointer none] : Value)).cells, v.oneCell' = true := by decide
set_option maxHeartbeats 1000000 in
theorem clone_p (w : World) (a : Option Addr) (m c : Nat) (news : List Value) (hl : news.length = m * 2) (hsrc : m = 0 ∨ ∃ ad, a = some ad ∧ ∀ j u, news[j]? = some u → w.cell? (ad.add j) = some u) (h1 : ∀ u ∈ news, u.oneCell' = true) (hm : m ≤ 8796093022208) :
    Calls Try.prog 99 #[.slice a m c] w (Put w 103 2 (.slice none 0 0) m news) := by
  cases a with
  | none =>
    have h0 : m = 0 := hsrc.elim id fun ⟨ad, h, _⟩ => by cases h
    subst h0
    obtain rfl : news = [] := List.eq_nil_of_length_eq_zero (by simpa using hl)
    clear hsrc
    have heq : ∀ w, (binOp .eql 139 (.slice none 0 c) (.slice none 0 0)).run Try.prog w = .ok (.bool true) w := fun w => Lib.run_eql_slice_nil w _ 103 none 0 c 0 0 rfl
    go_enter Try.func99, Try.ntmps99
    go_wp2
    go_ret
    exact ⟨_, rfl, ⟨by simp, .inl ⟨rfl, rfl⟩⟩, Fr.refl _ _, fun g hg => by cases hg⟩
  | some ad =>
    have Hl := hid hl; have Hs := hid hsrc; have H1 := hid h1
    clear hl hsrc h1
    have heq : ∀ w, (binOp .eql 139 (.slice (some ad) m c) (.slice none 0 0)).run Try.prog w = .ok (.bool false) w := fun w => Lib.run_eql_slice_nil w _ 103 (some ad) m c 0 0 rfl
    go_enter Try.func99, Try.ntmps99
    go_wp2_with (first
      | ((with_reducible show wpList _ _ _ ({ dst := _, op := .buildSlice 139 _ _, type := _, pos := _, after := _, guard := _ } :: _) _ _); refine wpL_buildNone rfl 139 103 rfl (fun w => by kernel_rfl) ?_; intro w1 HB1 HF1 HS1; have HO : Hid (w1.ownsRow 0 103 2 (.slice (some ⟨w.heap.size, 0, none⟩) 0 0) 0 []) := hid (own_mk HB1.out (Nat.le_refl _) (Nat.zero_le _) rfl rfl))
      | ((with_reducible show wpList _ _ _ ({ dst := _, op := .call { callee := .builtin .append, args := _, argTypes := _ }, type := _, pos := _, after := _, guard := _ } :: _) _ _); refine app_p rfl _ _ rfl _ 0 [] rfl HO.out (some ad) m c news rfl Hl.out (Hs.out.imp id fun ⟨ad', h1, h2⟩ => ⟨ad', h1, fun j u hj => HF1.out.cell (h2 j u hj) id⟩) H1.out (by omega) ?_; intro a' c' w2 HO2 HG2 HA2))
    go_ret
    refine ⟨_, rfl, by have := HO2.out; simpa using this, ?_, fun g hg => ?_⟩
    · exact HF1.out.no.grown HG2.out (fun k hk => .inr (by cases hk; exact Nat.le_refl _))
    · right
      have hg' : (Value.slice a' (0 + m) c').ownBlock = some g := by rw [Nat.zero_add]; exact hg
      rcases HA2.out with h | h
      · rw [h] at hg'; cases hg'; exact Nat.le_refl _
      · rw [h] at hg'; cases hg'; rw [HS1.out]; omega
set_option maxHeartbeats 1000000 in
theorem del_some_p (w : World) (n i j cap g : Nat) (xs cur ys : List Value) (hg : Blk w g 103 cur) (hij : i < j) (hj : j ≤ n) (hnc : n ≤ cap) (hcm : cap ≤ maxLen) (hcl : cur.length = cap * 2) (htk : cur.take (n * 2) = xs) (h1x : ∀ u ∈ xs, u.oneCell' = true) (hys : xs.take (i * 2) ++ xs.drop (j * 2) = ys) :
    Calls Try.prog 116 #[.slice (some ⟨g, 0, none⟩) n cap, .int .i64 i, .int .i64 j] w (Put w 103 2 (.slice (some ⟨g, 0, none⟩) n cap) (n - (j - i)) ys) := by
  obtain ⟨ti, hti, hz, hs, hby⟩ := infoz_p
  have hxl : xs.length = n * 2 := by rw [← htk, List.length_take, hcl, Nat.min_eq_left (Nat.mul_le_mul_right _ hnc)]
  have HG := hid hg; have Hcl := hid hcl; have Htk := hid htk; have H1x := hid h1x; have Hys := hid hys; have Hxl := hid hxl; have HI := hid hij; have HJ := hid hj; have Hti := hid hti; have Hs := hid hs; have HN := hid hnc; have HCM := hid hcm
  unfold maxLen at hcm
  clear hg hcl htk h1x hys hxl hti hz hs hby
  have b1 : ((i : Int) == j) = false := by rw [beq_eq_false_iff_ne]; omega
  have b2 : ¬ ((i : Int) = j) := by omega
  have b3 : (i : Int) ≤ j := by omega
  have b4 : (j : Int) ≤ n := by omega
  have b5 : (i : Int) ≤ n := by omega
  have b6 : i ≤ j := by omega
  have b7 : i ≤ cap := by omega
  have b8 : j ≤ n := by omega
  have b9 : i + (n - j) ≤ n := by omega
  have b10 : (n : Int) ≤ cap := by omega
  have b11 : ¬ (cap = i + (n - j)) := by omega
  have b12 : i + (n - j) ≤ cap := by omega
  have b13 : (0 : Int) ≤ ((i + (n - j) : Nat) : Int) := by omega
  go_enter Try.func116, Try.ntmps116
  go_wp2_with fail
  refine wpD_region (Facts.nil_hold w.drew) (by kernel_rfl) 8 rfl ?_
  have hold := Facts.nil_hold w.drew
  (refine wpD_plain 0 (v := ?_) rfl (by kernel_rfl) (by kernel_rfl) (by kernel_rfl) (fun _ _ _ h => h) (by rfl) ?_ (by assumption) ?_; rotate_left; (intro _w; go_simp; try with_reducible rfl); simp only [Act.put, List.setIfInBounds_toArray, List.set_cons_zero, List.set_cons_succ])
  (refine wpD_plain 1 (v := ?_) rfl (by kernel_rfl) (by kernel_rfl) (by kernel_rfl) (fun _ _ _ h => h) (by rfl) ?_ (by assumption) ?_; rotate_left; (intro _w; go_simp; try with_reducible rfl); simp only [Act.put, List.setIfInBounds_toArray, List.set_cons_zero, List.set_cons_succ])
  (refine wpD_plain 2 (v := ?_) rfl (by kernel_rfl) (by kernel_rfl) (by kernel_rfl) (fun _ _ _ h => h) (by rfl) ?_ (by assumption) ?_; rotate_left; (intro _w; go_simp; try with_reducible rfl); simp only [Act.put, List.setIfInBounds_toArray, List.set_cons_zero, List.set_cons_succ])
  (refine wpD_plain 3 (v := ?_) rfl (by kernel_rfl) (by kernel_rfl) (by kernel_rfl) (fun _ _ _ h => h) (by rfl) ?_ (by assumption) ?_; rotate_left; (intro _w; go_simp; try with_reducible rfl); simp only [Act.put, List.setIfInBounds_toArray, List.set_cons_zero, List.set_cons_succ])
  (refine wpD_plain 4 (v := ?_) rfl (by kernel_rfl) (by kernel_rfl) (by kernel_rfl) (fun _ _ _ h => h) (by rfl) ?_ (by assumption) ?_; rotate_left; (intro _w; go_simp; try with_reducible rfl); simp only [Act.put, List.setIfInBounds_toArray, List.set_cons_zero, List.set_cons_succ])
  (refine wpD_plain 5 (v := (.slice (if cap = j then some ⟨g, 0, none⟩ else some ⟨g, (j * 2), none⟩) (n - j) (cap - j))) rfl (by kernel_rfl) (by kernel_rfl) (by kernel_rfl) (fun _ _ _ h => h) (by rfl) ?_ (by assumption) ?_; (intro _w; go_simp; skip); simp only [Act.put, List.setIfInBounds_toArray, List.set_cons_zero, List.set_cons_succ])
  obtain ⟨ad, had, hcel⟩ : ∃ ad, (if cap = j then some (⟨g, 0, none⟩ : Addr) else some ⟨g, (j * 2), none⟩) = some ad ∧ ∀ q u, (xs.drop (j * 2))[q]? = some u → w.drew.cell? (ad.add q) = some u := by
    by_cases hc : cap = j
    · refine ⟨_, if_pos hc, fun q u hu => ?_⟩
      have h0 : xs.drop (j * 2) = [] := List.drop_eq_nil_of_le (by rw [Hxl.out]; have := HJ.out; omega)
      rw [h0] at hu; cases hu
    · exact ⟨_, if_neg hc, cells_p w.drew HG.out.drew Htk.out (by omega)⟩
  rw [had]
  have HCE := hid hcel
  clear had hcel
  have hdl : (xs.drop (j * 2)).length = (n - j) * 2 := by rw [List.length_drop, Hxl.out]; have := HJ.out; omega
  have HDL := hid hdl
  clear hdl
  refine wpD_only 6 [] rfl (by kernel_rfl) (by kernel_rfl) (by rfl) (fun K6 hK6 => ?_)
  refine wp_appendR _ _ 139 rfl 103 ti 2 rfl Hti.out Hs.out g i cap (n - j) (cap - j) ad rfl rfl 103 cur HG.out.drew (xs.drop (j * 2)) HDL.out HCE.out (fun u hu => H1x.out u (List.mem_of_mem_drop hu)) (by have := HI.out; have := HJ.out; have := HN.out; omega) (by rw [HDL.out, Hcl.out]; have := HI.out; have := HJ.out; have := HN.out; omega) ?_
  intro w1 HB1 HF1 HS1
  refine hK6 _ _ (Facts.nil_hold _) ?_
  simp only [Act.put, List.setIfInBounds_toArray, List.set_cons_zero, List.set_cons_succ]
  clear hK6 K6 hold
  have hold := Facts.nil_hold w1
  (refine wpD_plain 7 (v := ?_) rfl (by kernel_rfl) (by kernel_rfl) (by kernel_rfl) (fun _ _ _ h => h) (by rfl) ?_ (by assumption) ?_; rotate_left; (intro _w; go_simp; try with_reducible rfl); simp only [Act.put, List.setIfInBounds_toArray, List.set_cons_zero, List.set_cons_succ])
  refine wpD_done (by kernel_rfl) ?_ _
  clear hold
  have hn2 : i + (n - j) = n - (j - i) := by omega
  have h3 : spl cur (i * 2) (xs.drop (j * 2)) = ys ++ cur.drop (i * 2 + (n - j) * 2) := by
    unfold spl
    rw [HDL.out, ← Hys.out, show cur.take (i * 2) = xs.take (i * 2) from by rw [← Htk.out, List.take_take, Nat.min_eq_left (Nat.mul_le_mul_right _ (by have := HI.out; have := HJ.out; omega))]]
  have h4 : ys.length = (n - (j - i)) * 2 := by rw [← Hys.out, List.length_append, List.length_take, Hxl.out, HDL.out, Nat.min_eq_left (Nat.mul_le_mul_right _ (by omega))]; omega
  have H3 := hid h3; have H4 := hid h4; have H2 := hid hn2
  clear h3 h4 hn2
  generalize hq : i + (n - j) = q at *
  have HQ := hid hq
  clear hq
  have b14 : q < n := by have := HQ.out; have := HI.out; have := HJ.out; omega
  go_wp2_with ((with_reducible show wpList _ _ _ ({ dst := _, op := .call { callee := .builtin .clear, args := _, argTypes := _ }, type := _, pos := _, after := _, guard := _ } :: _) _ _); refine wpL_clearK rfl _ 139 103 rfl rfl (.agg #[.pointer none, .pointer none]) 2 rfl zero_p rfl one_p g (q * 2) (n - q) (cap - q) rfl 103 _ HB1.out (by rw [spl_length _ _ _ (by rw [HDL.out, Hcl.out]; have := HI.out; have := HJ.out; have := HN.out; omega), Hcl.out]; have := HN.out; omega) ?_; intro w2 zs hzs HB2 HF2 HS2; have HZ := hid hzs; clear hzs)
  go_ret
  rw [← H2.out]
  have hl1 : (spl cur (i * 2) (xs.drop (j * 2))).length = cap * 2 := by rw [spl_length _ _ _ (by rw [HDL.out, Hcl.out]; have := HI.out; have := HJ.out; have := HN.out; omega), Hcl.out]
  refine put_mk (own_mk HB2.out b12 HCM.out (by rw [spl_length _ _ _ (by rw [hl1, HZ.out]; have := HN.out; omega), hl1]) ?_) ?_ (.inl rfl)
  · have h4 := H4.out
    rw [← H2.out] at h4
    rw [H3.out]
    unfold spl
    have e1 : (q * 2) = ys.length := by rw [h4]; try omega
    rw [show q * 2 = ys.length from h4.symm]
    try rw [e1]
    rw [List.take_left, List.append_assoc, List.take_left]
  · have ob : ∀ k, k = g → Ob (.slice (some ⟨g, 0, none⟩) n cap) k := fun k e => by subst e; rfl
    exact ((Fr.refl _ w).drew.trans' (HF1.out.mono ob)).trans' (HF2.out.mono ob)
set_option maxHeartbeats 1000000 in
theorem del_none_p (w : World) (v : Value) (n i : Nat) (xs : List Value) (hv : w.ownsRow 0 103 2 v n xs) (hi : i ≤ n) (hn : n ≤ 8796093022208) :
    Calls Try.prog 116 #[v, .int .i64 i, .int .i64 i] w (Put w 103 2 v n xs) := by
  have hfin : Hid (Put w 103 2 v n xs (.returned v) w) := hid ⟨v, rfl, hv, Fr.refl _ _, fun g h => .inl h⟩
  rcases hv.2 with ⟨rfl, rfl⟩ | ⟨g, cap, cur, rfl, -, -, hnc, hcm, -, -⟩
  · obtain rfl : i = 0 := by omega
    clear hv
    go_enter Try.func116, Try.ntmps116
    go_wp2
    go_ret
    exact hfin.out
  · clear hv
    unfold maxLen at hcm
    have b5 : (i : Int) ≤ n := by omega
    have b10 : (n : Int) ≤ cap := by omega
    by_cases hin : n = i
    · have HFZ := hfin
      clear hfin
      subst hin
      go_enter Try.func116, Try.ntmps116
      go_wp2
      go_ret
      exact HFZ.out
    · go_enter Try.func116, Try.ntmps116
      go_wp2
      go_ret
      exact hfin.out
theorem delete_p (w : World) (v : Value) (n i j : Nat) (xs : List Value) (hv : w.ownsRow 0 103 2 v n xs) (hij : i ≤ j) (hj : j ≤ n) (hn : n ≤ 8796093022208) (h1x : ∀ u ∈ xs, u.oneCell' = true) :
    Calls Try.prog 116 #[v, .int .i64 i, .int .i64 j] w (Put w 103 2 v (n - (j - i)) (xs.take (i * 2) ++ xs.drop (j * 2))) := by
  rcases Nat.lt_or_ge i j with hlt | hge
  · obtain ⟨g, cap, cur, rfl, hg, h2, h3, h4, h5⟩ := own_open hv (by omega)
    exact del_some_p w n i j cap g xs cur _ hg hlt hj h2 h3 h4 h5 h1x rfl
  · obtain rfl : i = j := by omega
    rw [List.take_append_drop, Nat.sub_self, Nat.sub_zero]
    exact del_none_p w v n i xs hv hj hn
end Go.Proofs.Ytlnolnaapnijbaa.TR
