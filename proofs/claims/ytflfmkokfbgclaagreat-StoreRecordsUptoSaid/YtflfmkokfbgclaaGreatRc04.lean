/-
  Part 4 of the proof: TrMp, TrNs, TrNp, TrD.
-/
import Derived.Test.YtflfmkokfbgclaaGreatRc03
import Derived.Test.YtflfmkokfbgclaaGreatRc02
set_option linter.unusedSimpArgs false
set_option linter.unusedVariables false
namespace Go.Proofs.YtflfmkokfbgclaaGreat.TR
set_option maxRecDepth 100000
open Go.RowKit K

theorem one_p : ∀ v ∈ ((.agg #[.pointer none, .pointer none] : Value)).cells, v.oneCell' = true := by decide
set_option maxHeartbeats 1000000 in
theorem clone_p (w : World) (a : Option Addr) (m c : Nat) (news : List Value) (hl : news.length = m * 2) (hsrc : m = 0 ∨ ∃ ad, a = some ad ∧ ∀ j u, news[j]? = some u → w.cell? (ad.add j) = some u) (h1 : ∀ u ∈ news, u.oneCell' = true) (hm : m ≤ 8796093022208) :
    Calls Tryz.prog 130 #[.slice a m c] w (Put w 134 2 (.slice none 0 0) m news) := by
  cases a with
  | none =>
    have h0 : m = 0 := hsrc.elim id fun ⟨ad, h, _⟩ => by cases h
    subst h0
    obtain rfl : news = [] := List.eq_nil_of_length_eq_zero (by simpa using hl)
    clear hsrc
    have heq : ∀ w, (binOp .eql 165 (.slice none 0 c) (.slice none 0 0)).run Tryz.prog w = .ok (.bool true) w := fun w => Lib.run_eql_slice_nil w _ 134 none 0 c 0 0 rfl
    go_enter Tryz.func130, Tryz.ntmps130
    go_wp2
    go_ret
    exact ⟨_, rfl, ⟨by simp, .inl ⟨rfl, rfl⟩⟩, Fr.refl _ _, fun g hg => by cases hg⟩
  | some ad =>
    have Hl := hid hl; have Hs := hid hsrc; have H1 := hid h1
    clear hl hsrc h1
    have heq : ∀ w, (binOp .eql 165 (.slice (some ad) m c) (.slice none 0 0)).run Tryz.prog w = .ok (.bool false) w := fun w => Lib.run_eql_slice_nil w _ 134 (some ad) m c 0 0 rfl
    go_enter Tryz.func130, Tryz.ntmps130
    go_wp2_with (first
      | ((with_reducible show wpList _ _ _ (⟨_, .buildSlice 165 _ _, _, _, _, _⟩ :: _) _ _); refine wpL_buildNone rfl 165 134 rfl (fun w => by kernel_rfl) ?_; intro w1 HB1 HF1 HS1; have HO : Hid (w1.ownsRow 0 134 2 (.slice (some ⟨w.heap.size, 0, none⟩) 0 0) 0 []) := hid (own_mk HB1.out (Nat.le_refl _) (Nat.zero_le _) rfl rfl))
      | ((with_reducible show wpList _ _ _ (⟨_, .call { callee := .builtin .append, args := _, argTypes := _ }, _, _, _, _⟩ :: _) _ _); refine app_p rfl _ _ rfl _ 0 [] rfl HO.out (some ad) m c news rfl Hl.out (Hs.out.imp id fun ⟨ad', h1, h2⟩ => ⟨ad', h1, fun j u hj => HF1.out.cell (h2 j u hj) id⟩) H1.out (by omega) ?_; intro a' c' w2 HO2 HG2 HA2))
    go_ret
    refine ⟨_, rfl, by have := HO2.out; simpa using this, ?_, fun g hg => ?_⟩
    · exact HF1.out.no.grown HG2.out (fun k hk => .inr (by cases hk; exact Nat.le_refl _))
    · right
      have hg' : (Value.slice a' (0 + m) c').ownBlock = some g := by rw [Nat.zero_add]; exact hg
      rcases HA2.out with h | h
      · rw [h] at hg'; cases hg'; exact Nat.le_refl _
      · rw [h] at hg'; cases hg'; rw [HS1.out]; omega
set_option maxHeartbeats 1000000 in
theorem del_some_p (w : World) (n i j cap g : Nat) (xs cur ys : List Value) (hg : Blk w g 134 cur) (hij : i < j) (hj : j ≤ n) (hnc : n ≤ cap) (hcm : cap ≤ maxLen) (hcl : cur.length = cap * 2) (htk : cur.take (n * 2) = xs) (h1x : ∀ u ∈ xs, u.oneCell' = true) (hys : xs.take (i * 2) ++ xs.drop (j * 2) = ys) :
    Calls Tryz.prog 126 #[.slice (some ⟨g, 0, none⟩) n cap, .int .i64 i, .int .i64 j] w (Put w 134 2 (.slice (some ⟨g, 0, none⟩) n cap) (n - (j - i)) ys) := by
  obtain ⟨ti, hti, hz, hs, hby⟩ := infoz_p
  have hxl : xs.length = n * 2 := by rw [← htk, List.length_take, hcl, Nat.min_eq_left (Nat.mul_le_mul_right _ hnc)]
  have HG := hid hg; have Hcl := hid hcl; have Htk := hid htk; have H1x := hid h1x; have Hys := hid hys; have Hxl := hid hxl; have HI := hid hij; have HJ := hid hj; have Hti := hid hti; have Hs := hid hs; have HN := hid hnc; have HCM := hid hcm
  unfold maxLen at hcm
  clear hg hcl htk h1x hys hxl hti hz hs hby
  have b1 : ((i : Int) == j) = false := by rw [beq_eq_false_iff_ne]; omega
  have b2 : ¬ ((i : Int) = j) := by omega
  have b3 : (i : Int) ≤ j := by omega
  have b4 : (j : Int) ≤ n := by omega
  have b5 : (i : Int) ≤ n := by omega
  have b6 : i ≤ j := by omega
  have b7 : i ≤ cap := by omega
  have b8 : j ≤ n := by omega
  have b9 : i + (n - j) ≤ n := by omega
  have b10 : (n : Int) ≤ cap := by omega
  have b11 : ¬ (cap = i + (n - j)) := by omega
  have b12 : i + (n - j) ≤ cap := by omega
  have b13 : (0 : Int) ≤ ((i + (n - j) : Nat) : Int) := by omega
  go_enter Tryz.func126, Tryz.ntmps126
  go_wp2_with fail
  refine wpD_region (Facts.nil_hold w.drew) (by kernel_rfl) 8 rfl ?_
  have hold := Facts.nil_hold w.drew
  (refine wpD_plain 0 (v := ?_) rfl (by kernel_rfl) (by kernel_rfl) (by kernel_rfl) (fun _ _ _ h => h) (by rfl) ?_ (by assumption) ?_; rotate_left; (intro _w; go_simp; try with_reducible rfl); simp only [Act.put, List.setIfInBounds_toArray, List.set_cons_zero, List.set_cons_succ])
  (refine wpD_plain 1 (v := ?_) rfl (by kernel_rfl) (by kernel_rfl) (by kernel_rfl) (fun _ _ _ h => h) (by rfl) ?_ (by assumption) ?_; rotate_left; (intro _w; go_simp; try with_reducible rfl); simp only [Act.put, List.setIfInBounds_toArray, List.set_cons_zero, List.set_cons_succ])
  (refine wpD_plain 2 (v := ?_) rfl (by kernel_rfl) (by kernel_rfl) (by kernel_rfl) (fun _ _ _ h => h) (by rfl) ?_ (by assumption) ?_; rotate_left; (intro _w; go_simp; try with_reducible rfl); simp only [Act.put, List.setIfInBounds_toArray, List.set_cons_zero, List.set_cons_succ])
  (refine wpD_plain 3 (v := ?_) rfl (by kernel_rfl) (by kernel_rfl) (by kernel_rfl) (fun _ _ _ h => h) (by rfl) ?_ (by assumption) ?_; rotate_left; (intro _w; go_simp; try with_reducible rfl); simp only [Act.put, List.setIfInBounds_toArray, List.set_cons_zero, List.set_cons_succ])
  (refine wpD_plain 4 (v := ?_) rfl (by kernel_rfl) (by kernel_rfl) (by kernel_rfl) (fun _ _ _ h => h) (by rfl) ?_ (by assumption) ?_; rotate_left; (intro _w; go_simp; try with_reducible rfl); simp only [Act.put, List.setIfInBounds_toArray, List.set_cons_zero, List.set_cons_succ])
  (refine wpD_plain 5 (v := (.slice (if cap = j then some ⟨g, 0, none⟩ else some ⟨g, (j * 2), none⟩) (n - j) (cap - j))) rfl (by kernel_rfl) (by kernel_rfl) (by kernel_rfl) (fun _ _ _ h => h) (by rfl) ?_ (by assumption) ?_; (intro _w; go_simp; skip); simp only [Act.put, List.setIfInBounds_toArray, List.set_cons_zero, List.set_cons_succ])
  obtain ⟨ad, had, hcel⟩ : ∃ ad, (if cap = j then some (⟨g, 0, none⟩ : Addr) else some ⟨g, (j * 2), none⟩) = some ad ∧ ∀ q u, (xs.drop (j * 2))[q]? = some u → w.drew.cell? (ad.add q) = some u := by
    by_cases hc : cap = j
    · refine ⟨_, if_pos hc, fun q u hu => ?_⟩
      have h0 : xs.drop (j * 2) = [] := List.drop_eq_nil_of_le (by rw [Hxl.out]; have := HJ.out; omega)
      rw [h0] at hu; cases hu
    · exact ⟨_, if_neg hc, cells_p w.drew HG.out.drew Htk.out (by omega)⟩
  rw [had]
  have HCE := hid hcel
  clear had hcel
  have hdl : (xs.drop (j * 2)).length = (n - j) * 2 := by rw [List.length_drop, Hxl.out]; have := HJ.out; omega
  have HDL := hid hdl
  clear hdl
  refine wpD_only 6 [] rfl (by kernel_rfl) (by kernel_rfl) (by rfl) (fun K6 hK6 => ?_)
  refine wp_appendR _ _ 165 rfl 134 ti 2 rfl Hti.out Hs.out g i cap (n - j) (cap - j) ad rfl rfl 134 cur HG.out.drew (xs.drop (j * 2)) HDL.out HCE.out (fun u hu => H1x.out u (List.mem_of_mem_drop hu)) (by have := HI.out; have := HJ.out; have := HN.out; omega) (by rw [HDL.out, Hcl.out]; have := HI.out; have := HJ.out; have := HN.out; omega) ?_
  intro w1 HB1 HF1 HS1
  refine hK6 _ _ (Facts.nil_hold _) ?_
  simp only [Act.put, List.setIfInBounds_toArray, List.set_cons_zero, List.set_cons_succ]
  clear hK6 K6 hold
  have hold := Facts.nil_hold w1
  (refine wpD_plain 7 (v := ?_) rfl (by kernel_rfl) (by kernel_rfl) (by kernel_rfl) (fun _ _ _ h => h) (by rfl) ?_ (by assumption) ?_; rotate_left; (intro _w; go_simp; try with_reducible rfl); simp only [Act.put, List.setIfInBounds_toArray, List.set_cons_zero, List.set_cons_succ])
  refine wpD_done (by kernel_rfl) ?_ _
  clear hold
  have hn2 : i + (n - j) = n - (j - i) := by omega
  have h3 : spl cur (i * 2) (xs.drop (j * 2)) = ys ++ cur.drop (i * 2 + (n - j) * 2) := by
    unfold spl
    rw [HDL.out, ← Hys.out, show cur.take (i * 2) = xs.take (i * 2) from by rw [← Htk.out, List.take_take, Nat.min_eq_left (Nat.mul_le_mul_right _ (by have := HI.out; have := HJ.out; omega))]]
  have h4 : ys.length = (n - (j - i)) * 2 := by rw [← Hys.out, List.length_append, List.length_take, Hxl.out, HDL.out, Nat.min_eq_left (Nat.mul_le_mul_right _ (by omega))]; omega
  have H3 := hid h3; have H4 := hid h4; have H2 := hid hn2
  clear h3 h4 hn2
  generalize hq : i + (n - j) = q at *
  have HQ := hid hq
  clear hq
  have b14 : q < n := by have := HQ.out; have := HI.out; have := HJ.out; omega
  go_wp2_with ((with_reducible show wpList _ _ _ (⟨_, .call { callee := .builtin .clear, args := _, argTypes := _ }, _, _, _, _⟩ :: _) _ _); refine wpL_clearK rfl _ 165 134 rfl rfl (.agg #[.pointer none, .pointer none]) 2 rfl zero_p rfl one_p g (q * 2) (n - q) (cap - q) rfl 134 _ HB1.out (by rw [spl_length _ _ _ (by rw [HDL.out, Hcl.out]; have := HI.out; have := HJ.out; have := HN.out; omega), Hcl.out]; have := HN.out; omega) ?_; intro w2 zs hzs HB2 HF2 HS2; have HZ := hid hzs; clear hzs)
  go_ret
  rw [← H2.out]
  have hl1 : (spl cur (i * 2) (xs.drop (j * 2))).length = cap * 2 := by rw [spl_length _ _ _ (by rw [HDL.out, Hcl.out]; have := HI.out; have := HJ.out; have := HN.out; omega), Hcl.out]
  refine put_mk (own_mk HB2.out b12 HCM.out (by rw [spl_length _ _ _ (by rw [hl1, HZ.out]; have := HN.out; omega), hl1]) ?_) ?_ (.inl rfl)
  · have h4 := H4.out
    rw [← H2.out] at h4
    rw [H3.out]
    unfold spl
    have e1 : (q * 2) = ys.length := by rw [h4]; try omega
    rw [show q * 2 = ys.length from h4.symm]
    try rw [e1]
    rw [List.take_left, List.append_assoc, List.take_left]
  · have ob : ∀ k, k = g → Ob (.slice (some ⟨g, 0, none⟩) n cap) k := fun k e => by subst e; rfl
    exact ((Fr.refl _ w).drew.trans' (HF1.out.mono ob)).trans' (HF2.out.mono ob)
set_option maxHeartbeats 1000000 in
theorem del_none_p (w : World) (v : Value) (n i : Nat) (xs : List Value) (hv : w.ownsRow 0 134 2 v n xs) (hi : i ≤ n) (hn : n ≤ 8796093022208) :
    Calls Tryz.prog 126 #[v, .int .i64 i, .int .i64 i] w (Put w 134 2 v n xs) := by
  have hfin : Hid (Put w 134 2 v n xs (.returned v) w) := hid ⟨v, rfl, hv, Fr.refl _ _, fun g h => .inl h⟩
  rcases hv.2 with ⟨rfl, rfl⟩ | ⟨g, cap, cur, rfl, -, -, hnc, hcm, -, -⟩
  · obtain rfl : i = 0 := by omega
    clear hv
    go_enter Tryz.func126, Tryz.ntmps126
    go_wp2
    go_ret
    exact hfin.out
  · clear hv
    unfold maxLen at hcm
    have b5 : (i : Int) ≤ n := by omega
    have b10 : (n : Int) ≤ cap := by omega
    by_cases hin : n = i
    · have HFZ := hfin
      clear hfin
      subst hin
      go_enter Tryz.func126, Tryz.ntmps126
      go_wp2
      go_ret
      exact HFZ.out
    · go_enter Tryz.func126, Tryz.ntmps126
      go_wp2
      go_ret
      exact hfin.out
theorem delete_p (w : World) (v : Value) (n i j : Nat) (xs : List Value) (hv : w.ownsRow 0 134 2 v n xs) (hij : i ≤ j) (hj : j ≤ n) (hn : n ≤ 8796093022208) (h1x : ∀ u ∈ xs, u.oneCell' = true) :
    Calls Tryz.prog 126 #[v, .int .i64 i, .int .i64 j] w (Put w 134 2 v (n - (j - i)) (xs.take (i * 2) ++ xs.drop (j * 2))) := by
  rcases Nat.lt_or_ge i j with hlt | hge
  · obtain ⟨g, cap, cur, rfl, hg, h2, h3, h4, h5⟩ := own_open hv (by omega)
    exact del_some_p w n i j cap g xs cur _ hg hlt hj h2 h3 h4 h5 h1x rfl
  · obtain rfl : i = j := by omega
    rw [List.take_append_drop, Nat.sub_self, Nat.sub_zero]
    exact del_none_p w v n i xs hv hj hn
end Go.Proofs.YtflfmkokfbgclaaGreat.TR

namespace Go.Proofs.YtflfmkokfbgclaaGreat.TR
set_option maxRecDepth 100000
open Go.RowKit K

theorem size_s (w : World) (b : Nat) (kv cv : Value) (ks : List S) (cs : List Value) (h : NdAt w 160 9 1 b kv cv ks cs) :
    Calls Tryz.prog 108 #[.pointer (some ⟨b, 0, none⟩)] w fun e w' => e = .returned (.int .i64 ks.length) ∧ w = w' := by
  obtain ⟨a, c, rfl, -, -⟩ := own_form h.rk
  have c0 : w.cell? ⟨b, 0, none⟩ = some (.slice a ks.length c) := h.blk.cell 0
  clear h
  generalize ks.length = n at *
  go_enter Tryz.func108, Tryz.ntmps108
  go_wp2
  go_ret
  exact ⟨rfl, rfl⟩

theorem info_nd_s : (Tryz.prog.info? 118).map (·.size) = some 1 ∧ (Tryz.prog.info? 118).map (·.size) = some 1 := ⟨by kernel_rfl, by kernel_rfl⟩
theorem cells_one {v : Value} (h : v.oneCell' = true) : v.cells = [v].toArray := by cases v <;> first | rfl | cases h
set_option maxHeartbeats 1000000 in
theorem remove_s (w : World) (b i j : Nat) (kv cv : Value) (ks : List S) (cs : List Value) (h : NdAt w 160 9 1 b kv cv ks cs) (hij : i ≤ j) (hj : j ≤ ks.length) (hn : ks.length ≤ 8796093022208) :
    Calls Tryz.prog 101 #[.pointer (some ⟨b, 0, none⟩), .int .i64 i, .int .i64 j] w fun e w' => e = .returned (.tuple #[]) ∧ NdPost w 160 9 1 b kv cv (ks.take i ++ ks.drop j) (cs.take (i * 1) ++ cs.drop (j * 1)) w' := by
  have hl : (ks.take i ++ ks.drop j).length = ks.length - (j - i) := by simp; omega
  have e1 : sv (ks.take i ++ ks.drop j) = (sv ks).take (i * 1) ++ (sv ks).drop (j * 1) := by simp [sv, List.map_take, List.map_drop]
  have E1 := hid e1; have HL := hid hl
  clear e1 hl
  have H := hid h
  have c0 : w.cell? ⟨b, 0, none⟩ = some kv := h.blk.cell 0
  clear h
  have HJ := hid hj; have HN := hid hn; have HI := hid hij
  clear hj hn hij
  go_enter Tryz.func101, Tryz.ntmps101
  go_wp2_with fail
  refine (delete_s w kv ks.length i j (sv ks) H.out.rk HI.out HJ.out HN.out (sv_one _)).mono ?_
  rintro e w1 ⟨kv', rfl, o1, f1, g1⟩
  have F1 := hid f1
  have G1 := hid g1
  have O1 : Hid (w1.ownsRow 0 9 1 kv' (ks.take i ++ ks.drop j).length (sv (ks.take i ++ ks.drop j))) := hid (by rw [HL.out, E1.out]; exact o1)
  clear o1 f1 g1
  have HB1 : Hid (Blk w1 b 160 [kv, cv]) := hid (H.out.blk.fr F1.out H.out.n1)
  go_wp2_with ((with_reducible show wpList _ _ _ (⟨_, .store 118 _ _, _, _, _, _⟩ :: _) _ _); refine wpL_storeV rfl _ _ _ rfl b 0 kv' [kv'] rfl rfl (cells_one (own_one O1.out)) _ _ HB1.out (by simp) info_nd_s.1 (by intro u hu; simp at hu; subst hu; exact own_one O1.out) ?_; intro w2 HB2 F2 HS2; have c1 : w2.cell? ⟨b, 1, none⟩ = some cv := HB2.out.cell 1)
  have R2 : Hid (w2.ownsRow 0 9 1 cv ks.length cs) := hid (own_fr (own_fr H.out.rc F1.out (fun g hg e => H.out.n3 g e hg)) F2.out (fun g hg (e : g = b) => H.out.n2 (by rw [hg, e])))
  refine (delete_s w2 cv ks.length i j cs R2.out HI.out HJ.out HN.out H.out.one).mono ?_
  rintro e w3 ⟨cv', rfl, o3, f3, g3⟩
  have F3 := hid f3
  have G3 := hid g3
  have O3 : Hid (w3.ownsRow 0 9 1 cv' (ks.take i ++ ks.drop j).length (cs.take (i * 1) ++ cs.drop (j * 1))) := hid (by rw [HL.out]; exact o3)
  clear o3 f3 g3
  have HB3 : Hid (Blk w3 b 160 [kv', cv]) := hid (Blk.fr (by have := HB2.out; simpa [spl] using this) F3.out H.out.n2)
  go_wp2_with ((with_reducible show wpList _ _ _ (⟨_, .store 118 _ _, _, _, _, _⟩ :: _) _ _); refine wpL_storeV rfl _ _ _ rfl b 1 cv' [cv'] rfl rfl (cells_one (own_one O3.out)) _ _ HB3.out (by simp) info_nd_s.2 (by intro u hu; simp at hu; subst hu; exact own_one O3.out) ?_; intro w4 HB4 F4 HS4)
  have HON : Hid (∀ u ∈ cs.take (i * 1) ++ cs.drop (j * 1), u.oneCell' = true) := hid (fun u hu => (List.mem_append.1 hu).elim (fun h => H.out.one u (List.mem_of_mem_take h)) (fun h => H.out.one u (List.mem_of_mem_drop h)))
  refine bodyPost_end (v := .tuple #[]) (by simp [results, Tryz.results101]) rfl ⟨rfl, ?_⟩
  have P := nd_turn H.out F1.out O1.out G1.out F2.out F3.out O3.out G3.out F4.out (by have := HB4.out; simpa [spl] using this) HON.out
  first | exact P | (simp only [Nat.mul_one] at P; exact P)

set_option maxHeartbeats 1000000 in
theorem insert_nd_s (w : World) (b i : Nat) (kv cv : Value) (ks : List S) (cs x : List Value) (s : S) (c : Value) (hc : c.cells = x.toArray) (hx : x.length = 1) (h1 : ∀ u ∈ x, u.oneCell' = true)
    (hcc : ∃ t : S, c = .string t)
    (h : NdAt w 160 9 1 b kv cv ks cs) (hi : i ≤ ks.length) (hn : ks.length + 1 ≤ 8796093022208) :
    Calls Tryz.prog 104 #[.pointer (some ⟨b, 0, none⟩), .int .i64 i, .string s, c] w fun e w' => e = .returned (.tuple #[]) ∧ NdPost w 160 9 1 b kv cv (ks.take i ++ s :: ks.drop i) (cs.take (i * 1) ++ x ++ cs.drop (i * 1)) w' := by
  have hl : (ks.take i ++ s :: ks.drop i).length = ks.length + 1 := by simp; omega
  have e1 : sv (ks.take i ++ s :: ks.drop i) = (sv ks).take (i * 1) ++ [.string s] ++ (sv ks).drop (i * 1) := by simp [sv, List.map_take, List.map_drop]
  have E1 := hid e1; have HL := hid hl; have HX := hid hx; have H1 := hid h1; have HC := hid hc
  clear e1 hl hx h1 hc
  have H := hid h
  have c0 : w.cell? ⟨b, 0, none⟩ = some kv := h.blk.cell 0
  clear h
  obtain ⟨i9, I9, Z9, S9, B9⟩ := infoz_s
  have J9 := hid I9; have Y9 := hid Z9; have X9 := hid S9
  clear I9 Z9 S9 B9
  obtain ⟨ie, Ie, Ze, Se, Be⟩ := infoz_s
  have Je := hid Ie; have Ye := hid Ze; have Xe := hid Se
  clear Ie Ze Se Be
  have HN := hid hn; have HI := hid hi
  clear hn hi
  obtain ⟨t, rfl⟩ := hcc
  have EX : Hid (x = [.string t]) := hid (by have := congrArg Array.toList HC.out; simpa [Value.cells] using this.symm)
  go_enter Tryz.func104, Tryz.ntmps104
  go_wp2_with (first
    | ((with_reducible show wpList _ _ _ (⟨_, .buildSlice 118 _ _, _, _, _, _⟩ :: _) _ _); refine wpL_buildOne rfl _ 9 _ rfl i9 _ rfl J9.out Y9.out (by rw [X9.out]; decide) (by rw [X9.out]; decide) _ [.string s] rfl rfl (by rw [X9.out]; rfl) ?_; intro wa HBa Fa HSa))
  have F0 : Hid (Fr No w w) := hid (Fr.refl _ _)
  have hlt : kv.ownBlock ≠ some w.heap.size := fun e => by have := own_lt H.out.rk _ e; have := F0.out.size; omega
  refine (insert_s wa kv ks.length i (sv ks) [.string s] w.heap.size (own_fr (own_fr H.out.rk F0.out (fun _ _ e => e)) Fa.out (fun _ _ e => e)) HI.out HBa.out rfl (by intro u hu; simp at hu; subst hu; rfl) (sv_one _) hlt HN.out).mono ?_
  rintro e w1 ⟨kv', rfl, o1, f1, g1⟩
  have F1 : Hid (Fr (Ob kv) w w1) := hid ((F0.out.no.trans' Fa.out.no).trans' f1)
  have G1 : Hid (∀ g, kv'.ownBlock = some g → kv.ownBlock = some g ∨ w.heap.size ≤ g) := hid (fun g hg => (g1 g hg).imp id (fun e => by have := F0.out.size; have := Fa.out.size; omega))
  have O1 : Hid (w1.ownsRow 0 9 1 kv' (ks.take i ++ s :: ks.drop i).length (sv (ks.take i ++ s :: ks.drop i))) := hid (by rw [HL.out, E1.out]; exact o1)
  clear o1 f1 g1
  have HB1 : Hid (Blk w1 b 160 [kv, cv]) := hid (H.out.blk.fr F1.out H.out.n1)
  go_wp2_with (first
    | ((with_reducible show wpList _ _ _ (⟨_, .buildSlice 118 _ _, _, _, _, _⟩ :: _) _ _); refine wpL_buildOne rfl _ 9 _ rfl i9 _ rfl J9.out Y9.out (by rw [X9.out]; decide) (by rw [X9.out]; decide) _ [.string t] rfl rfl (by rw [X9.out]; rfl) ?_; intro w2b HBb Fb HSb)
    | ((with_reducible show wpList _ _ _ (⟨_, .store 118 _ _, _, _, _, _⟩ :: _) _ _); refine wpL_storeV rfl _ _ _ rfl b 0 kv' [kv'] rfl rfl (cells_one (own_one O1.out)) _ _ HB1.out (by simp) info_nd_s.1 (by intro u hu; simp at hu; subst hu; exact own_one O1.out) ?_; intro w2 HB2 F2 HS2; have c1 : w2.cell? ⟨b, 1, none⟩ = some cv := HB2.out.cell 1))
  have R2 : Hid (w2.ownsRow 0 9 1 cv ks.length cs) := hid (own_fr (own_fr H.out.rc F1.out (fun g hg e => H.out.n3 g e hg)) F2.out (fun g hg (e : g = b) => H.out.n2 (by rw [hg, e])))
  replace HBb : Hid (Blk w2b w2.heap.size 9 x) := hid (by rw [EX.out]; exact HBb.out)
  have hlt2 : cv.ownBlock ≠ some w2.heap.size := fun e => by have := own_lt R2.out _ e; omega
  refine (insert_s w2b cv ks.length i cs x w2.heap.size (own_fr R2.out Fb.out (fun _ _ e => e)) HI.out HBb.out HX.out H1.out H.out.one hlt2 HN.out).mono ?_
  rintro e w3 ⟨cv', rfl, o3, f3, g3⟩
  have F3 : Hid (Fr (Ob cv) w2 w3) := hid (Fb.out.no.trans' f3)
  have G3 : Hid (∀ g, cv'.ownBlock = some g → cv.ownBlock = some g ∨ w2.heap.size ≤ g) := hid (fun g hg => (g3 g hg).imp id (fun e => by have := Fb.out.size; omega))
  have O3 : Hid (w3.ownsRow 0 9 1 cv' (ks.take i ++ s :: ks.drop i).length (cs.take (i * 1) ++ x ++ cs.drop (i * 1))) := hid (by rw [HL.out]; exact o3)
  clear o3 f3 g3
  have HB3 : Hid (Blk w3 b 160 [kv', cv]) := hid (Blk.fr (by have := HB2.out; simpa [spl] using this) F3.out H.out.n2)
  have HON : Hid (∀ u ∈ cs.take (i * 1) ++ x ++ cs.drop (i * 1), u.oneCell' = true) := hid (fun u hu => (List.mem_append.1 hu).elim (fun h => (List.mem_append.1 h).elim (fun h => H.out.one u (List.mem_of_mem_take h)) (H1.out u)) (fun h => H.out.one u (List.mem_of_mem_drop h)))
  go_wp2_with ((with_reducible show wpList _ _ _ (⟨_, .store 118 _ _, _, _, _, _⟩ :: _) _ _); refine wpL_storeV rfl _ _ _ rfl b 1 cv' [cv'] rfl rfl (cells_one (own_one O3.out)) _ _ HB3.out (by simp) info_nd_s.2 (by intro u hu; simp at hu; subst hu; exact own_one O3.out) ?_; intro w4 HB4 F4 HS4)
  refine bodyPost_end (v := .tuple #[]) (by simp [results, Tryz.results104]) rfl ⟨rfl, ?_⟩
  have P := nd_turn H.out F1.out O1.out G1.out F2.out F3.out O3.out G3.out F4.out (by have := HB4.out; simpa [spl] using this) HON.out
  first | exact P | (simp only [Nat.mul_one, List.append_assoc] at P ⊢; exact P)
end Go.Proofs.YtflfmkokfbgclaaGreat.TR

namespace Go.Proofs.YtflfmkokfbgclaaGreat.TR
set_option maxRecDepth 100000
open Go.RowKit K

theorem size_p (w : World) (b : Nat) (kv cv : Value) (ks : List S) (cs : List Value) (h : NdAt w 167 134 2 b kv cv ks cs) :
    Calls Tryz.prog 113 #[.pointer (some ⟨b, 0, none⟩)] w fun e w' => e = .returned (.int .i64 ks.length) ∧ w = w' := by
  obtain ⟨a, c, rfl, -, -⟩ := own_form h.rk
  have c0 : w.cell? ⟨b, 0, none⟩ = some (.slice a ks.length c) := h.blk.cell 0
  clear h
  generalize ks.length = n at *
  go_enter Tryz.func113, Tryz.ntmps113
  go_wp2
  go_ret
  exact ⟨rfl, rfl⟩

theorem info_nd_p : (Tryz.prog.info? 118).map (·.size) = some 1 ∧ (Tryz.prog.info? 165).map (·.size) = some 1 := ⟨by kernel_rfl, by kernel_rfl⟩
set_option maxHeartbeats 1000000 in
theorem remove_p (w : World) (b i j : Nat) (kv cv : Value) (ks : List S) (cs : List Value) (h : NdAt w 167 134 2 b kv cv ks cs) (hij : i ≤ j) (hj : j ≤ ks.length) (hn : ks.length ≤ 8796093022208) :
    Calls Tryz.prog 115 #[.pointer (some ⟨b, 0, none⟩), .int .i64 i, .int .i64 j] w fun e w' => e = .returned (.tuple #[]) ∧ NdPost w 167 134 2 b kv cv (ks.take i ++ ks.drop j) (cs.take (i * 2) ++ cs.drop (j * 2)) w' := by
  have hl : (ks.take i ++ ks.drop j).length = ks.length - (j - i) := by simp; omega
  have e1 : sv (ks.take i ++ ks.drop j) = (sv ks).take (i * 1) ++ (sv ks).drop (j * 1) := by simp [sv, List.map_take, List.map_drop]
  have E1 := hid e1; have HL := hid hl
  clear e1 hl
  have H := hid h
  have c0 : w.cell? ⟨b, 0, none⟩ = some kv := h.blk.cell 0
  clear h
  have HJ := hid hj; have HN := hid hn; have HI := hid hij
  clear hj hn hij
  go_enter Tryz.func115, Tryz.ntmps115
  go_wp2_with fail
  refine (delete_s w kv ks.length i j (sv ks) H.out.rk HI.out HJ.out HN.out (sv_one _)).mono ?_
  rintro e w1 ⟨kv', rfl, o1, f1, g1⟩
  have F1 := hid f1
  have G1 := hid g1
  have O1 : Hid (w1.ownsRow 0 9 1 kv' (ks.take i ++ ks.drop j).length (sv (ks.take i ++ ks.drop j))) := hid (by rw [HL.out, E1.out]; exact o1)
  clear o1 f1 g1
  have HB1 : Hid (Blk w1 b 167 [kv, cv]) := hid (H.out.blk.fr F1.out H.out.n1)
  go_wp2_with ((with_reducible show wpList _ _ _ (⟨_, .store 118 _ _, _, _, _, _⟩ :: _) _ _); refine wpL_storeV rfl _ _ _ rfl b 0 kv' [kv'] rfl rfl (cells_one (own_one O1.out)) _ _ HB1.out (by simp) info_nd_p.1 (by intro u hu; simp at hu; subst hu; exact own_one O1.out) ?_; intro w2 HB2 F2 HS2; have c1 : w2.cell? ⟨b, 1, none⟩ = some cv := HB2.out.cell 1)
  have R2 : Hid (w2.ownsRow 0 134 2 cv ks.length cs) := hid (own_fr (own_fr H.out.rc F1.out (fun g hg e => H.out.n3 g e hg)) F2.out (fun g hg (e : g = b) => H.out.n2 (by rw [hg, e])))
  refine (delete_p w2 cv ks.length i j cs R2.out HI.out HJ.out HN.out H.out.one).mono ?_
  rintro e w3 ⟨cv', rfl, o3, f3, g3⟩
  have F3 := hid f3
  have G3 := hid g3
  have O3 : Hid (w3.ownsRow 0 134 2 cv' (ks.take i ++ ks.drop j).length (cs.take (i * 2) ++ cs.drop (j * 2))) := hid (by rw [HL.out]; exact o3)
  clear o3 f3 g3
  have HB3 : Hid (Blk w3 b 167 [kv', cv]) := hid (Blk.fr (by have := HB2.out; simpa [spl] using this) F3.out H.out.n2)
  go_wp2_with ((with_reducible show wpList _ _ _ (⟨_, .store 165 _ _, _, _, _, _⟩ :: _) _ _); refine wpL_storeV rfl _ _ _ rfl b 1 cv' [cv'] rfl rfl (cells_one (own_one O3.out)) _ _ HB3.out (by simp) info_nd_p.2 (by intro u hu; simp at hu; subst hu; exact own_one O3.out) ?_; intro w4 HB4 F4 HS4)
  have HON : Hid (∀ u ∈ cs.take (i * 2) ++ cs.drop (j * 2), u.oneCell' = true) := hid (fun u hu => (List.mem_append.1 hu).elim (fun h => H.out.one u (List.mem_of_mem_take h)) (fun h => H.out.one u (List.mem_of_mem_drop h)))
  refine bodyPost_end (v := .tuple #[]) (by simp [results, Tryz.results115]) rfl ⟨rfl, ?_⟩
  have P := nd_turn H.out F1.out O1.out G1.out F2.out F3.out O3.out G3.out F4.out (by have := HB4.out; simpa [spl] using this) HON.out
  first | exact P | (simp only [Nat.mul_one] at P; exact P)

set_option maxHeartbeats 1000000 in
theorem insert_nd_p (w : World) (b i : Nat) (kv cv : Value) (ks : List S) (cs x : List Value) (s : S) (c : Value) (hc : c.cells = x.toArray) (hx : x.length = 2) (h1 : ∀ u ∈ x, u.oneCell' = true)
    (hcc : ∃ p q : Value, c = .agg #[p, q] ∧ p.oneCell' = true ∧ q.oneCell' = true)
    (h : NdAt w 167 134 2 b kv cv ks cs) (hi : i ≤ ks.length) (hn : ks.length + 1 ≤ 8796093022208) :
    Calls Tryz.prog 107 #[.pointer (some ⟨b, 0, none⟩), .int .i64 i, .string s, c] w fun e w' => e = .returned (.tuple #[]) ∧ NdPost w 167 134 2 b kv cv (ks.take i ++ s :: ks.drop i) (cs.take (i * 2) ++ x ++ cs.drop (i * 2)) w' := by
  have hl : (ks.take i ++ s :: ks.drop i).length = ks.length + 1 := by simp; omega
  have e1 : sv (ks.take i ++ s :: ks.drop i) = (sv ks).take (i * 1) ++ [.string s] ++ (sv ks).drop (i * 1) := by simp [sv, List.map_take, List.map_drop]
  have E1 := hid e1; have HL := hid hl; have HX := hid hx; have H1 := hid h1; have HC := hid hc
  clear e1 hl hx h1 hc
  have H := hid h
  have c0 : w.cell? ⟨b, 0, none⟩ = some kv := h.blk.cell 0
  clear h
  obtain ⟨i9, I9, Z9, S9, B9⟩ := infoz_s
  have J9 := hid I9; have Y9 := hid Z9; have X9 := hid S9
  clear I9 Z9 S9 B9
  obtain ⟨ie, Ie, Ze, Se, Be⟩ := infoz_p
  have Je := hid Ie; have Ye := hid Ze; have Xe := hid Se
  clear Ie Ze Se Be
  have HN := hid hn; have HI := hid hi
  clear hn hi
  obtain ⟨p, q, rfl, hp, hq⟩ := hcc
  go_enter Tryz.func107, Tryz.ntmps107
  go_wp2_with (first
    | ((with_reducible show wpList _ _ _ (⟨_, .box 134 _, _, _, _, _⟩ :: _) _ _); refine wpL_box rfl _ _ rfl (.agg #[p, q]) rfl x HC.out ?_; intro w0 HB0 F0 HS0; have c0' : w0.cell? ⟨b, 0, none⟩ = some kv := F0.out.cell c0 id)
    | ((with_reducible show wpList _ _ _ (⟨_, .buildSlice 118 _ _, _, _, _, _⟩ :: _) _ _); refine wpL_buildOne rfl _ 9 _ rfl i9 _ rfl J9.out Y9.out (by rw [X9.out]; decide) (by rw [X9.out]; decide) _ [.string s] rfl rfl (by rw [X9.out]; rfl) ?_; intro wa HBa Fa HSa))
  have hlt : kv.ownBlock ≠ some w0.heap.size := fun e => by have := own_lt H.out.rk _ e; have := F0.out.size; omega
  refine (insert_s wa kv ks.length i (sv ks) [.string s] w0.heap.size (own_fr (own_fr H.out.rk F0.out (fun _ _ e => e)) Fa.out (fun _ _ e => e)) HI.out HBa.out rfl (by intro u hu; simp at hu; subst hu; rfl) (sv_one _) hlt HN.out).mono ?_
  rintro e w1 ⟨kv', rfl, o1, f1, g1⟩
  have F1 : Hid (Fr (Ob kv) w w1) := hid ((F0.out.no.trans' Fa.out.no).trans' f1)
  have G1 : Hid (∀ g, kv'.ownBlock = some g → kv.ownBlock = some g ∨ w.heap.size ≤ g) := hid (fun g hg => (g1 g hg).imp id (fun e => by have := F0.out.size; have := Fa.out.size; omega))
  have O1 : Hid (w1.ownsRow 0 9 1 kv' (ks.take i ++ s :: ks.drop i).length (sv (ks.take i ++ s :: ks.drop i))) := hid (by rw [HL.out, E1.out]; exact o1)
  have HX1 : Hid (Blk w1 w.heap.size 134 x) := hid ((HB0.out.fr Fa.out id).fr f1 (fun e => by have e' : kv.ownBlock = some w.heap.size := e; have := own_lt H.out.rk _ e'; omega))
  clear o1 f1 g1
  have HB1 : Hid (Blk w1 b 167 [kv, cv]) := hid (H.out.blk.fr F1.out H.out.n1)
  go_wp2_with (first
    | ((with_reducible show wpList _ _ _ (⟨_, .store 118 _ _, _, _, _, _⟩ :: _) _ _); refine wpL_storeV rfl _ _ _ rfl b 0 kv' [kv'] rfl rfl (cells_one (own_one O1.out)) _ _ HB1.out (by simp) info_nd_p.1 (by intro u hu; simp at hu; subst hu; exact own_one O1.out) ?_; intro w2 HB2 F2 HS2; have c1 : w2.cell? ⟨b, 1, none⟩ = some cv := HB2.out.cell 1))
  have R2 : Hid (w2.ownsRow 0 134 2 cv ks.length cs) := hid (own_fr (own_fr H.out.rc F1.out (fun g hg e => H.out.n3 g e hg)) F2.out (fun g hg (e : g = b) => H.out.n2 (by rw [hg, e])))
  have HX2 : Hid (Blk w2 w.heap.size 134 x) := hid (HX1.out.fr F2.out (fun e => by have e' : w.heap.size = b := e; have := H.out.blk.lt; omega))
  simp only [Act.put, List.setIfInBounds_toArray, List.set_cons_zero, List.set_cons_succ]
  refine wpD_region (R := [(4, fun w' => w'.cell? ⟨b, 1, none⟩ = some cv), (6, fun w' => w'.rangeAt w.heap.size 0 [p, q])]) (Facts.cons_hold (w := w2.drew) c1 (Facts.cons_hold (HX2.out.drew.range 0 [p, q] (by have := HC.out; simp [Value.cells] at this; subst this; rfl)) (Facts.nil_hold _))) (by kernel_rfl) 12 rfl ?_
  have hold := Facts.cons_hold (k := 4) (S := fun w' => w'.cell? ⟨b, 1, none⟩ = some cv) (w := w2.drew) c1 (Facts.cons_hold (k := 6) (S := fun w' => w'.rangeAt w.heap.size 0 [p, q]) (HX2.out.drew.range 0 [p, q] (by have := HC.out; simp [Value.cells] at this; subst this; rfl)) (Facts.nil_hold _))
  (refine wpD_plain 0 (v := ?_) rfl (by kernel_rfl) (by kernel_rfl) (by kernel_rfl) (fun _ _ _ h => h) (by rfl) ?_ (by assumption) ?_; rotate_left; (intro _w; go_simp; try with_reducible rfl); simp only [Act.put, List.setIfInBounds_toArray, List.set_cons_zero, List.set_cons_succ])
  (refine wpD_plain 1 (v := ?_) rfl (by kernel_rfl) (by kernel_rfl) (by kernel_rfl) (fun _ _ _ h => h) (by rfl) ?_ (by assumption) ?_; rotate_left; (intro _w; go_simp; try with_reducible rfl); simp only [Act.put, List.setIfInBounds_toArray, List.set_cons_zero, List.set_cons_succ])
  (refine wpD_plain 2 (v := ?_) rfl (by kernel_rfl) (by kernel_rfl) (by kernel_rfl) (fun _ _ _ h => h) (by rfl) ?_ (by assumption) ?_; rotate_left; (intro _w; go_simp; try with_reducible rfl); simp only [Act.put, List.setIfInBounds_toArray, List.set_cons_zero, List.set_cons_succ])
  (refine wpD_plain 3 (v := ?_) rfl (by kernel_rfl) (by kernel_rfl) (by kernel_rfl) (fun _ _ _ h => h) (by rfl) ?_ (by assumption) ?_; rotate_left; (intro _w; go_simp; try with_reducible rfl); simp only [Act.put, List.setIfInBounds_toArray, List.set_cons_zero, List.set_cons_succ])
  (refine wpD_take 4 _ rfl (by kernel_rfl) (by kernel_rfl) (by kernel_rfl) (fun _ _ _ h => h) List.mem_cons_self (by rfl) (v := ?_) ?_ (by assumption) ?_; rotate_left; (intro _w _hw; go_simp; try with_reducible rfl); simp only [Act.put, List.setIfInBounds_toArray, List.set_cons_zero, List.set_cons_succ])
  (refine wpD_plain 5 (v := ?_) rfl (by kernel_rfl) (by kernel_rfl) (by kernel_rfl) (fun _ _ _ h => h) (by rfl) ?_ (by assumption) ?_; rotate_left; (intro _w; go_simp; try with_reducible rfl); simp only [Act.put, List.setIfInBounds_toArray, List.set_cons_zero, List.set_cons_succ])
  (refine wpD_take 6 _ rfl (by kernel_rfl) (by kernel_rfl) (by kernel_rfl) (fun _ _ _ h => h) (List.mem_cons_of_mem _ List.mem_cons_self) (by rfl) (exec_load _ _ rfl w.heap.size 0 rfl _ _ rfl rfl info_p) (by assumption) ?_; simp only [Act.put, List.setIfInBounds_toArray, List.set_cons_zero, List.set_cons_succ])
  clear hold
  refine wpD_only 7 [(4, fun w' => w'.cell? ⟨b, 1, none⟩ = some cv)] rfl (by kernel_rfl) (by kernel_rfl) (by rfl) (fun K7 hK7 => ?_)
  refine wp_buildOne 165 134 _ rfl ie _ rfl Je.out Ye.out (by rw [Xe.out]; decide) (by rw [Xe.out]; decide) _ x rfl HC.out (by rw [Xe.out]; exact HX.out) ?_
  intro w2b HBb Fb HSb
  replace Fb : Hid (Fr No w2 w2b) := hid ((Fr.refl No w2).drew.trans' Fb.out)
  refine hK7 _ _ (Facts.cons_hold (Fb.out.cell c1 id) (Facts.nil_hold _)) ?_
  simp only [Act.put, List.setIfInBounds_toArray, List.set_cons_zero, List.set_cons_succ]
  clear hK7 K7
  refine wpD_only 8 [] rfl (by kernel_rfl) (by kernel_rfl) (by rfl) (fun K8 hK8 => ?_)
  refine wp_call (.func 123) _ _ rfl 123 [] rfl (fun vs w => by kernel_rfl) [cv, .int .i64 i, .slice (some ⟨w2.drew.heap.size, 0, none⟩) 1 1] (by rfl) ?_
  have hlt2 : cv.ownBlock ≠ some w2.heap.size := fun e => by have := own_lt R2.out _ e; omega
  refine (insert_p w2b cv ks.length i cs x w2.heap.size (own_fr R2.out Fb.out (fun _ _ e => e)) HI.out HBb.out HX.out H1.out H.out.one hlt2 HN.out).mono ?_
  rintro e w3 ⟨cv', rfl, o3, f3, g3⟩
  have F3 : Hid (Fr (Ob cv) w2 w3) := hid (Fb.out.no.trans' f3)
  have G3 : Hid (∀ g, cv'.ownBlock = some g → cv.ownBlock = some g ∨ w2.heap.size ≤ g) := hid (fun g hg => (g3 g hg).imp id (fun e => by have := Fb.out.size; omega))
  have O3 : Hid (w3.ownsRow 0 134 2 cv' (ks.take i ++ s :: ks.drop i).length (cs.take (i * 2) ++ x ++ cs.drop (i * 2))) := hid (by rw [HL.out]; exact o3)
  clear o3 f3 g3
  have HB3 : Hid (Blk w3 b 167 [kv', cv]) := hid (Blk.fr (by have := HB2.out; simpa [spl] using this) F3.out H.out.n2)
  have HON : Hid (∀ u ∈ cs.take (i * 2) ++ x ++ cs.drop (i * 2), u.oneCell' = true) := hid (fun u hu => (List.mem_append.1 hu).elim (fun h => (List.mem_append.1 h).elim (fun h => H.out.one u (List.mem_of_mem_take h)) (H1.out u)) (fun h => H.out.one u (List.mem_of_mem_drop h)))
  refine ⟨_, rfl, hK8 _ _ (Facts.nil_hold _) ?_⟩
  simp only [Act.put, List.setIfInBounds_toArray, List.set_cons_zero, List.set_cons_succ]
  clear hK8 K8
  have hold := Facts.nil_hold w3
  (refine wpD_plain 9 (v := ?_) rfl (by kernel_rfl) (by kernel_rfl) (by kernel_rfl) (fun _ _ _ h => h) (by rfl) ?_ (by assumption) ?_; rotate_left; (intro _w; go_simp; try with_reducible rfl); simp only [Act.put, List.setIfInBounds_toArray, List.set_cons_zero, List.set_cons_succ])
  (refine wpD_plain 10 (v := ?_) rfl (by kernel_rfl) (by kernel_rfl) (by kernel_rfl) (fun _ _ _ h => h) (by rfl) ?_ (by assumption) ?_; rotate_left; (intro _w; go_simp; try with_reducible rfl); simp only [Act.put, List.setIfInBounds_toArray, List.set_cons_zero, List.set_cons_succ])
  clear hold
  refine wpD_only 11 [] rfl (by kernel_rfl) (by kernel_rfl) (by rfl) (fun K11 hK11 => ?_)
  refine wp_storeV _ _ _ rfl b 1 cv' [cv'] rfl rfl (cells_one (own_one O3.out)) _ _ HB3.out (by simp) info_nd_p.2 (by intro u hu; simp at hu; subst hu; exact own_one O3.out) ?_
  intro w4 HB4 F4 HS4
  refine hK11 _ _ (Facts.nil_hold _) ?_
  clear hK11 K11
  refine wpD_done (by kernel_rfl) ?_ _
  simp only [Act.put, List.setIfInBounds_toArray, List.set_cons_zero, List.set_cons_succ]
  go_wp2
  refine bodyPost_end (v := .tuple #[]) (by simp [results, Tryz.results107]) rfl ⟨rfl, ?_⟩
  have P := nd_turn H.out F1.out O1.out G1.out F2.out F3.out O3.out G3.out F4.out (by have := HB4.out; simpa [spl] using this) HON.out
  first | exact P | (simp only [Nat.mul_one, List.append_assoc] at P ⊢; exact P)
end Go.Proofs.YtflfmkokfbgclaaGreat.TR

namespace Go.Proofs.YtflfmkokfbgclaaGreat.TR
set_option maxRecDepth 100000
open Go.RowKit K

theorem own_src {w : World} {e : TypeId} {k n c : Nat} {a : Option Addr} {xs : List Value} (h : w.ownsRow 0 e k (.slice a n c) n xs) : n = 0 ∨ ∃ ad, a = some ad ∧ ∀ j u, xs[j]? = some u → w.cell? (ad.add j) = some u := by
  rcases Nat.eq_zero_or_pos n with h0 | h0
  · exact .inl h0
  · right
    obtain ⟨g, cap, cur, hv, hB, -, -, -, ht⟩ := own_open h h0
    cases hv
    refine ⟨_, rfl, fun j u hj => ?_⟩
    rw [Addr.add_mid, Nat.zero_add, hB.cell]
    rw [← ht, List.getElem?_take] at hj
    split at hj
    · exact hj
    · cases hj
/-- A variable of a given value, as one operation of a region. -/
theorem wp_box {P : Program} {Q : Exit → Act → World → Prop} {K : Act → World → Prop} {op : Oper} {a : Act} {w : World} (t : TypeId) (x : Operand) (ho : op.op = .box t x) (v : Value) (hv : a.eval x = v) (cs : List Value) (hcs : v.cells = cs.toArray)
    (h : ∀ w', Hid (Blk w' w.heap.size t cs) → Hid (Fr No w w') → Hid (w'.heap.size = w.heap.size + 1) → K (a.put op.dst (.pointer (some ⟨w.heap.size, 0, none⟩))) w') : op.wp P a w K Q := by
  unfold Oper.wp
  have h1 := h (w.alloc (.cells v.cells t)) (hid (by rw [hcs]; exact Blk.new w t cs)) (hid ((Fr.refl _ _).alloc _)) (hid (by simp))
  simp [execOp, ho, Instr.box, hv, newVar, newRow, Result.andThen]
  exact h1
/-- A node is cut: the old one and a new one. -/
def CutNd (w : World) (T e : TypeId) (k b : Nat) (kv cv : Value) (ks ks' : List S) (cs cs' : List Value) (r : Ending) (w' : World) : Prop :=
  ∃ b' kv' cv' kv1 cv1, r = .returned (.pointer (some ⟨b', 0, none⟩)) ∧ NdAt w' T e k b' kv' cv' ks' cs' ∧ NdAt w' T e k b kv1 cv1 ks cs ∧ Fr (Own b kv cv) w w' ∧ (∀ g, Own b' kv' cv' g → w.heap.size ≤ g) ∧
    (∀ g, Own b kv1 cv1 g → Own b kv cv g ∨ w.heap.size ≤ g) ∧ ∀ g, Own b kv1 cv1 g → ¬ Own b' kv' cv' g
theorem put_nil {w w' : World} {e : TypeId} {k n : Nat} {xs : List Value} {r : Ending} (h : Put w e k (.slice none 0 0) n xs r w') : ∃ a c, r = .returned (.slice a n c) ∧ w'.ownsRow 0 e k (.slice a n c) n xs ∧ Fr No w w' ∧ ∀ g, (Value.slice a n c).ownBlock = some g → w.heap.size ≤ g := by
  obtain ⟨v, rfl, h1, h2, h3⟩ := h
  obtain ⟨a, c, rfl, -, -⟩ := own_form h1
  exact ⟨a, c, rfl, h1, h2.mono (fun k hk => by cases hk), fun g hg => (h3 g hg).elim (fun e => by cases e) id⟩
end Go.Proofs.YtflfmkokfbgclaaGreat.TR
