/-
  slices.Insert, slices.Delete, slices.Clone at elements of 1 cells (string).
-/
import Derived.Test.YtlnolnaapnijbaaTrB
namespace Go.Proofs.Ytlnolnaapnijbaa.TR
set_option maxRecDepth 100000
open Go.RowKit K

theorem info_s : (Try.prog.info? 9).map (·.size) = some 1 := by kernel_rfl
theorem zero_s (w : World) : (zeroValue 9).run Try.prog w = .ok (.string ⟨#[]⟩) w := by kernel_rfl
theorem infom_s : (Try.prog.info? 9).map (fun i => (i.zero, i.size, i.bytes)) = some (some (.string ⟨#[]⟩), 1, 16) := by kernel_rfl
theorem infoz_s : ∃ i, Try.prog.info? 9 = some i ∧ i.zero = some (.string ⟨#[]⟩) ∧ i.size = 1 ∧ i.bytes = 16 := by
  have h := infom_s
  cases hq : Try.prog.info? 9 with
  | none => rw [hq] at h; cases h
  | some i =>
    rw [hq] at h
    simp only [Option.map_some, Option.some.injEq, Prod.mk.injEq] at h
    exact ⟨i, rfl, h.1, h.2.1, h.2.2⟩
theorem app_s {ops : Array Oper} {rest : List Oper} {op : Oper} {a : Act} {w : World} {Q : Exit → Act → World → Prop} (hgd : op.guard = none) (s x : Operand) (ho : op.op = .call { callee := .builtin .append, args := #[s, x], argTypes := #[62, 62] })
    (v : Value) (n : Nat) (xs : List Value) (hv : a.eval s = v) (hown : w.ownsRow 0 9 1 v n xs)
    (sp : Option Addr) (m c : Nat) (news : List Value) (hx : a.eval x = .slice sp m c) (hl : news.length = m * 1) (hsrc : m = 0 ∨ ∃ ad, sp = some ad ∧ ∀ j u, news[j]? = some u → w.cell? (ad.add j) = some u) (h1 : ∀ u ∈ news, u.oneCell' = true)
    (hb : n + m ≤ 8796093022208)
    (h : ∀ a' cap' w', Hid (w'.ownsRow 0 9 1 (.slice a' (n + m) cap') (n + m) (xs ++ news)) → Hid (w.grownBy w' v.ownBlock) → Hid ((Value.slice a' (n + m) cap').ownBlock = v.ownBlock ∨ (Value.slice a' (n + m) cap').ownBlock = some w.heap.size) →
      wpList Try.prog ops Q rest (a.put op.dst (.slice a' (n + m) cap')) w') : wpList Try.prog ops Q (op :: rest) a w := by
  obtain ⟨i, hi, hz, hs, hby⟩ := infoz_s
  exact wpL_append hgd s x 62 ho 0 9 i _ 1 16 rfl hi hz hs hby rfl (by decide) v n xs hv hown sp m c news hx hl hsrc h1 (by unfold maxLen; omega) (by omega) (Nat.zero_le _) h

set_option maxHeartbeats 1000000 in
theorem ins_end_s (w : World) (v : Value) (n : Nat) (xs x : List Value) (bv : Nat) (hv : w.ownsRow 0 9 1 v n xs) (hB : Blk w bv 9 x) (hx : x.length = 1) (h1 : ∀ u ∈ x, u.oneCell' = true) (hn : n + 1 ≤ 8796093022208) :
    Calls Try.prog 105 #[v, .int .i64 n, .slice (some ⟨bv, 0, none⟩) 1 1] w (Put w 9 1 v (n + 1) (xs ++ x)) := by
  have Hv := hid hv; have HB := hid hB; have Hx := hid hx; have H1 := hid h1
  clear hB hx h1
  have fin : Hid (∀ a' c' w', w'.ownsRow 0 9 1 (.slice a' (n + 1) c') (n + 1) (xs ++ x) → w.grownBy w' v.ownBlock → ((Value.slice a' (n + 1) c').ownBlock = v.ownBlock ∨ (Value.slice a' (n + 1) c').ownBlock = some w.heap.size) → Put w 9 1 v (n + 1) (xs ++ x) (.returned (.slice a' (n + 1) c')) w') := hid (by
    intro a' c' w' h1 h2 h3
    refine ⟨_, rfl, h1, ((Fr.refl (Ob v) w).grown h2 fun k hk => .inl hk), fun g hg => ?_⟩
    rcases h3 with h3 | h3
    · exact .inl (by rw [← h3]; exact hg)
    · exact .inr (by rw [h3] at hg; cases hg; exact Nat.le_refl _))
  rcases hv.2 with ⟨rfl, rfl⟩ | ⟨g, cap, cur, rfl, -, hg, hnc, hcm, -, -⟩
  · clear hv
    go_enter Try.func105, Try.ntmps105
    go_wp2_with ((with_reducible show wpList _ _ _ ({ dst := _, op := .call { callee := .builtin .append, args := _, argTypes := _ }, type := _, pos := _, after := _, guard := _ } :: _) _ _); refine app_s rfl _ _ rfl _ 0 xs rfl Hv.out (some ⟨bv, 0, none⟩) 1 1 x rfl (by rw [Hx.out]) (.inr ⟨_, rfl, HB.out.news⟩) H1.out (by omega) ?_; intro a' c' w1 HO HG HA)
    go_ret
    exact fin.out _ _ _ HO.out HG.out HA.out
  · clear hv hg
    unfold maxLen at hcm
    by_cases hcn : cap = n
    · have HFz := fin
      clear fin
      subst hcn
      go_enter Try.func105, Try.ntmps105
      go_wp2_with ((with_reducible show wpList _ _ _ ({ dst := _, op := .call { callee := .builtin .append, args := _, argTypes := _ }, type := _, pos := _, after := _, guard := _ } :: _) _ _); refine app_s rfl _ _ rfl _ cap xs rfl Hv.out (some ⟨bv, 0, none⟩) 1 1 x rfl (by rw [Hx.out]) (.inr ⟨_, rfl, HB.out.news⟩) H1.out (by omega) ?_; intro a' c' w1 HO HG HA)
      go_ret
      exact HFz.out _ _ _ HO.out HG.out HA.out
    · go_enter Try.func105, Try.ntmps105
      go_wp2_with ((with_reducible show wpList _ _ _ ({ dst := _, op := .call { callee := .builtin .append, args := _, argTypes := _ }, type := _, pos := _, after := _, guard := _ } :: _) _ _); refine app_s rfl _ _ rfl _ n xs rfl Hv.out (some ⟨bv, 0, none⟩) 1 1 x rfl (by rw [Hx.out]) (.inr ⟨_, rfl, HB.out.news⟩) H1.out (by omega) ?_; intro a' c' w1 HO HG HA)
      go_ret
      exact fin.out _ _ _ HO.out HG.out HA.out

theorem cells_s (w : World) {g : Nat} {cur xs : List Value} {n o p : Nat} (hB : Blk w g 9 cur) (ht : cur.take (n * 1) = xs) (hp : p = o) : ∀ j v, (xs.drop o)[j]? = some v → w.cell? ((⟨g, p, none⟩ : Addr).add j) = some v := fun j v hj => by
  subst hp
  rw [Addr.add_mid, hB.cell]
  rw [← ht, List.getElem?_drop, List.getElem?_take] at hj
  split at hj
  · exact hj
  · cases hj
set_option maxHeartbeats 1000000 in
theorem ins_grow_s (w : World) (n i : Nat) (xs x cur : List Value) (bv g : Nat) (hB : Blk w bv 9 x) (hx : x.length = 1) (h1 : ∀ u ∈ x, u.oneCell' = true) (hn : n + 1 ≤ 8796093022208) (hi : i < n)
    (hg : Blk w g 9 cur) (hcl : cur.length = n * 1) (htk : cur.take (n * 1) = xs) (h1x : ∀ u ∈ xs, u.oneCell' = true) (ys : List Value) (hys : xs.take (i * 1) ++ x ++ xs.drop (i * 1) = ys) :
    Calls Try.prog 105 #[.slice (some ⟨g, 0, none⟩) n n, .int .i64 i, .slice (some ⟨bv, 0, none⟩) 1 1] w (Put w 9 1 (.slice (some ⟨g, 0, none⟩) n n) (n + 1) ys) := by
  have Hys := hid hys
  clear hys
  obtain ⟨ti, hti, hz, hs, hby⟩ := infoz_s
  have hxl : xs.length = n * 1 := by rw [← htk, List.length_take, hcl, Nat.min_self]
  have HB := hid hB; have Hx := hid hx; have H1 := hid h1; have HG := hid hg; have Hcl := hid hcl; have Htk := hid htk; have H1x := hid h1x
  have Hti := hid hti; have Hz := hid hz; have Hs := hid hs; have Hby := hid hby; have Hxl := hid hxl
  have HI := hid hi
  clear hB hx h1 hg hcl htk h1x hti hz hs hby hxl
  have hne : ¬ (n = i) := by omega
  have b1 : ¬ ((i : Int) = n) := by omega
  have hin : (i : Int) < n := by omega
  have hin2 : (i : Int) ≤ (n : Int) + 1 := by omega
  have hp : (0 : Int) ≤ (n : Int) + 1 - i := by omega
  have hq : (n : Int) + 1 - i = ((n + 1 - i : Nat) : Int) := by omega
  have HQ := hid hq
  clear hq
  go_enter Try.func105, Try.ntmps105
  have hal : (xs.take (i * 1)).length = i * 1 := by rw [List.length_take, Hxl.out]; exact Nat.min_eq_left (Nat.mul_le_mul_right _ (Nat.le_of_lt HI.out))
  have Hal := hid hal; clear hal
  have h12 : Hid (i * 1 + 1 + (n - i) * 1 = (n + 1) * 1) := hid (by have := HI.out; omega)
  have WA : Hid (IntKind.i64.wrap ((i : Int) + 1) = (i : Int) + 1) := hid (by rw [IntKind.wrap_i64]; have := HI.out; omega)
  go_wp2_with (first
    | ((with_reducible show wpList _ _ _ ({ dst := _, op := .call { callee := .builtin .append, args := _, argTypes := _ }, type := _, pos := _, after := _, guard := _ } :: _) _ _); refine wpL_appendZ rfl _ _ 62 3 rfl 9 ti _ 1 .i64 .i64 rfl rfl Hti.out Hz.out Hs.out rfl (by decide) g i n (n + 1 - i) rfl (congrArg (Value.int .i64) HQ.out) 9 cur HG.out (xs.take (i * 1)) Hal.out (by rw [← Htk.out, List.take_take, Nat.min_eq_left (Nat.mul_le_mul_right _ (Nat.le_of_lt HI.out))]) (by omega) (by omega) (by have := HI.out; omega) (by unfold maxLen; omega) (by rw [Hby.out]; omega) ?_; intro w1 zs cap' hc1 hc2 hl HB1 HF1 HS1; have Hl1 := hid hl; clear hl; unfold maxLen at hc2; rw [show i + (n + 1 - i) = n + 1 from by have := HI.out; omega]; have Hzl : Hid (i * 1 + zs.length = cap' * 1) := hid (by have := Hl1.out; rw [List.length_append, Hal.out] at this; exact this))
    | ((with_reducible show wpList _ _ _ ({ dst := _, op := .call { callee := .builtin .copy, args := _, argTypes := _ }, type := _, pos := _, after := _, guard := _ } :: _) _ _); refine wpL_copyK rfl _ _ 62 62 rfl 9 1 rfl info_s w.heap.size i (n + 1 - i) (cap' - i) ⟨bv, 0, none⟩ 1 1 rfl rfl 9 _ HB1.out x (by rw [Hx.out, show Nat.min 1 (n + 1 - i) = 1 from Nat.min_eq_left (by have := HI.out; omega)]) (HB.out.fr HF1.out id).news (by rw [Hl1.out, Hx.out]; have := HI.out; omega) H1.out ?_; intro w2 HB2 HF2 HS2))
  refine wpD_region (Facts.nil_hold w2.drew) (by kernel_rfl) 9 rfl ?_
  have hold := Facts.nil_hold w2.drew
  (refine wpD_plain 0 (v := ?_) rfl (by kernel_rfl) (by kernel_rfl) (by kernel_rfl) (fun _ _ _ h => h) (by rfl) ?_ (by assumption) ?_; rotate_left; (intro _w; go_simp; try with_reducible rfl); simp only [Act.put, List.setIfInBounds_toArray, List.set_cons_zero, List.set_cons_succ])
  (refine wpD_plain 1 (v := ?_) rfl (by kernel_rfl) (by kernel_rfl) (by kernel_rfl) (fun _ _ _ h => h) (by rfl) ?_ (by assumption) ?_; rotate_left; (intro _w; go_simp; try with_reducible rfl); simp only [Act.put, List.setIfInBounds_toArray, List.set_cons_zero, List.set_cons_succ])
  (refine wpD_plain 2 (v := ?_) rfl (by kernel_rfl) (by kernel_rfl) (by kernel_rfl) (fun _ _ _ h => h) (by rfl) ?_ (by assumption) ?_; rotate_left; (intro _w; go_simp; try with_reducible rfl); simp only [Act.put, List.setIfInBounds_toArray, List.set_cons_zero, List.set_cons_succ])
  (refine wpD_plain 3 (v := (.int .i64 ((i : Int) + 1))) rfl (by kernel_rfl) (by kernel_rfl) (by kernel_rfl) (fun _ _ _ h => h) (by rfl) ?_ (by assumption) ?_; (intro _w; go_simp; exact WA.out); simp only [Act.put, List.setIfInBounds_toArray, List.set_cons_zero, List.set_cons_succ])
  have hb1 : (0 : Int) ≤ (i : Int) + 1 := by omega
  have hb2 : ¬ (cap' = i + 1) := by have := HI.out; omega
  have hb3 : (i : Int) ≤ (n : Int) := by omega
  have htn : ((i : Int) + 1).toNat = i + 1 := by omega
  (refine wpD_plain 4 (v := (.slice (some ⟨w.heap.size, (i + 1), none⟩) (n + 1 - (i + 1)) (cap' - (i + 1)))) rfl (by kernel_rfl) (by kernel_rfl) (by kernel_rfl) (fun _ _ _ h => h) (by rfl) ?_ (by assumption) ?_; (intro _w; go_simp; skip); simp only [Act.put, List.setIfInBounds_toArray, List.set_cons_zero, List.set_cons_succ])
  (refine wpD_plain 5 (v := ?_) rfl (by kernel_rfl) (by kernel_rfl) (by kernel_rfl) (fun _ _ _ h => h) (by rfl) ?_ (by assumption) ?_; rotate_left; (intro _w; go_simp; try with_reducible rfl); simp only [Act.put, List.setIfInBounds_toArray, List.set_cons_zero, List.set_cons_succ])
  (refine wpD_plain 6 (v := ?_) rfl (by kernel_rfl) (by kernel_rfl) (by kernel_rfl) (fun _ _ _ h => h) (by rfl) ?_ (by assumption) ?_; rotate_left; (intro _w; go_simp; try with_reducible rfl); simp only [Act.put, List.setIfInBounds_toArray, List.set_cons_zero, List.set_cons_succ])
  (refine wpD_plain 7 (v := ?_) rfl (by kernel_rfl) (by kernel_rfl) (by kernel_rfl) (fun _ _ _ h => h) (by rfl) ?_ (by assumption) ?_; rotate_left; (intro _w; go_simp; try with_reducible rfl); simp only [Act.put, List.setIfInBounds_toArray, List.set_cons_zero, List.set_cons_succ])
  refine wpD_only 8 [] rfl (by kernel_rfl) (by kernel_rfl) (by rfl) (fun K8 hK8 => ?_)
  have hdl : (xs.drop (i * 1)).length = (n - i) * 1 := by rw [List.length_drop, Hxl.out]; have := HI.out; omega
  refine wp_copyK _ _ 62 62 rfl 9 1 rfl info_s w.heap.size (i + 1) (n + 1 - (i + 1)) (cap' - (i + 1)) ⟨g, i, none⟩ (n - i) (n - i) rfl rfl 9 _ HB2.out.drew (xs.drop (i * 1)) (by rw [hdl, show Nat.min (n - i) (n + 1 - (i + 1)) = n - i from Nat.min_eq_left (by omega)])
    (cells_s w2.drew (((HG.out.fr HF1.out id).fr HF2.out (fun e => by have h1 : g = w.heap.size := e; have := HG.out.lt; omega)).drew) Htk.out (by omega))
    (by rw [hdl]; have h1 := (spl_length (xs.take (i * 1) ++ zs) i x (by rw [Hl1.out, Hx.out]; have := HI.out; omega)); rw [h1, Hl1.out]; have := HI.out; omega) (fun u hu => H1x.out u (List.mem_of_mem_drop hu)) ?_
  intro w3 HB3 HF3 HS3
  refine hK8 _ _ (Facts.nil_hold _) ?_
  simp only [Act.put, List.setIfInBounds_toArray, List.set_cons_zero, List.set_cons_succ]
  clear hK8 K8
  refine wpD_done (by kernel_rfl) ?_ _
  have hzx : x.length + (xs.drop (i * 1)).length ≤ zs.length := by rw [hdl, Hx.out]; have := Hzl.out; have := HI.out; omega
  have hsp := spl_new (xs.take (i * 1)) zs x (xs.drop (i * 1)) hzx
  have hlen : (xs.take (i * 1)).length + x.length = (i + 1) * 1 := by rw [Hal.out, Hx.out]; omega
  rw [hlen, Hal.out] at hsp
  have HSP := hid hsp; have HDL := hid hdl
  clear hsp hdl hzx hlen hb1 hb2 hb3 htn
  go_wp2
  go_ret
  have hcur : (spl (spl (xs.take (i * 1) ++ zs) i x) (i + 1) (xs.drop (i * 1))).take ((n + 1) * 1) = ys ∧ (spl (spl (xs.take (i * 1) ++ zs) i x) (i + 1) (xs.drop (i * 1))).length = cap' * 1 := by
    have h1 := HSP.out
    rw [HDL.out, show (i + 1) * 1 + (n - i) * 1 = (n + 1) * 1 from by have := HI.out; omega] at h1
    try simp only [Nat.mul_one] at h1 ⊢
    exact ⟨h1.1.trans (by have := Hys.out; simpa only [Nat.mul_one] using this), h1.2.trans (by have := Hl1.out; simpa only [Nat.mul_one] using this)⟩
  refine put_mk (own_mk HB3.out hc1 (by unfold maxLen; exact hc2) hcur.2 hcur.1) ?_ (.inr (Nat.le_refl _))
  exact ((HF1.out.no.trans (D' := fun k => k = w.heap.size) HF2.out (fun k e => .inr (by rw [e]; exact Nat.le_refl _))).drew).trans (D' := fun k => k = w.heap.size) HF3.out (fun k e => .inr (by rw [e]; exact Nat.le_refl _))

theorem over_s (w : World) (bv g o la ca lb cb : Nat) (x cur : List Value) (hB : Blk w bv 9 x) (hg : Blk w g 9 cur) (hne : bv ≠ g) (h0 : cur.length ≠ 0) :
    (callFunc 117 #[.slice (some ⟨bv, 0, none⟩) la ca, .slice (some ⟨g, o, none⟩) lb cb]).run Try.prog w = .ok (.value (.bool false)) w := by
  rw [run_callFunc_extern Try.func117 (by kernel_rfl) (by kernel_rfl) (by kernel_rfl) (e := Extern.SlicesOverlaps.overlaps #[62, 62] #[4]) (by kernel_rfl),
    Lib.run_overlaps_apart w 62 4 9 rfl 1 (by intro w; kernel_rfl) ⟨bv, 0, none⟩ ⟨g, o, none⟩ la ca lb cb hne 9 9 x.length cur.length (by
      have h : w.heap[bv]? = some (.cells x.toArray 9 (0, 0)) := hB
      simp [World.shape?, h]) (by
      have h : w.heap[g]? = some (.cells cur.toArray 9 (0, 0)) := hg
      simp [World.shape?, h]) h0 (hB.frozen 0) (hB.frozen _)]
  rfl
set_option maxHeartbeats 1000000 in
theorem ins_shift_s (w : World) (n i cap : Nat) (xs x cur : List Value) (bv g : Nat) (hB : Blk w bv 9 x) (hx : x.length = 1) (h1 : ∀ u ∈ x, u.oneCell' = true) (hn : n + 1 ≤ 8796093022208) (hi : i < n)
    (hg : Blk w g 9 cur) (hne : bv ≠ g) (hnc : n < cap) (hcm : cap ≤ maxLen) (hcl : cur.length = cap * 1) (htk : cur.take (n * 1) = xs) (h1x : ∀ u ∈ xs, u.oneCell' = true) (ys : List Value) (hys : xs.take (i * 1) ++ x ++ xs.drop (i * 1) = ys) :
    Calls Try.prog 105 #[.slice (some ⟨g, 0, none⟩) n cap, .int .i64 i, .slice (some ⟨bv, 0, none⟩) 1 1] w (Put w 9 1 (.slice (some ⟨g, 0, none⟩) n cap) (n + 1) ys) := by
  have Hys := hid hys
  have hxl : xs.length = n * 1 := by rw [← htk, List.length_take, hcl, Nat.min_eq_left (Nat.mul_le_mul_right _ (Nat.le_of_lt hnc))]
  have HOV : Hid (∀ la ca lb cb o, (callFunc 117 #[.slice (some ⟨bv, 0, none⟩) la ca, .slice (some ⟨g, o, none⟩) lb cb]).run Try.prog w = .ok (.value (.bool false)) w) := hid (fun la ca lb cb o => over_s w bv g o la ca lb cb x cur hB hg hne (by rw [hcl]; omega))
  have HB := hid hB; have Hx := hid hx; have H1 := hid h1; have HG := hid hg; have Hcl := hid hcl; have Htk := hid htk; have H1x := hid h1x
  have Hxl := hid hxl; have Hne := hid hne
  have HI := hid hi
  have HCM := hid hcm
  unfold maxLen at hcm
  clear hB hx h1 hg hcl htk h1x hxl hys hne
  have WA : Hid (IntKind.i64.wrap ((i : Int) + 1) = (i : Int) + 1) := hid (by rw [IntKind.wrap_i64]; have := HI.out; omega)
  have b2 : ¬ (cap = i) := by omega
  have b3 : ¬ (cap = i + 1) := by omega
  have b1 : ¬ ((i : Int) = n) := by omega
  have b4 : ¬ ((n : Int) + 1 > cap) := by omega
  have b5 : (n : Int) + 1 ≤ cap := by omega
  have b7 : n + 1 ≤ cap := by omega
  have hb1 : (0 : Int) ≤ (i : Int) + 1 := by omega
  have hb3 : (i : Int) ≤ (n : Int) := by omega
  have hb4 : (i : Int) ≤ (n : Int) + 1 := by omega
  have htn : ((i : Int) + 1).toNat = i + 1 := by omega
  go_enter Try.func105, Try.ntmps105
  go_wp2_with fail
  rw [HOV.out]
  go_wp2_with fail
  refine wpD_region (Facts.nil_hold w.drew) (by kernel_rfl) 9 rfl ?_
  have hold := Facts.nil_hold w.drew
  (refine wpD_plain 0 (v := ?_) rfl (by kernel_rfl) (by kernel_rfl) (by kernel_rfl) (fun _ _ _ h => h) (by rfl) ?_ (by assumption) ?_; rotate_left; (intro _w; go_simp; try with_reducible rfl); simp only [Act.put, List.setIfInBounds_toArray, List.set_cons_zero, List.set_cons_succ])
  (refine wpD_plain 1 (v := ?_) rfl (by kernel_rfl) (by kernel_rfl) (by kernel_rfl) (fun _ _ _ h => h) (by rfl) ?_ (by assumption) ?_; rotate_left; (intro _w; go_simp; try with_reducible rfl); simp only [Act.put, List.setIfInBounds_toArray, List.set_cons_zero, List.set_cons_succ])
  (refine wpD_plain 2 (v := ?_) rfl (by kernel_rfl) (by kernel_rfl) (by kernel_rfl) (fun _ _ _ h => h) (by rfl) ?_ (by assumption) ?_; rotate_left; (intro _w; go_simp; try with_reducible rfl); simp only [Act.put, List.setIfInBounds_toArray, List.set_cons_zero, List.set_cons_succ])
  (refine wpD_plain 3 (v := (.int .i64 ((i : Int) + 1))) rfl (by kernel_rfl) (by kernel_rfl) (by kernel_rfl) (fun _ _ _ h => h) (by rfl) ?_ (by assumption) ?_; (intro _w; go_simp; exact WA.out); simp only [Act.put, List.setIfInBounds_toArray, List.set_cons_zero, List.set_cons_succ])
  (refine wpD_plain 4 (v := (.slice (some ⟨g, (i + 1), none⟩) (n + 1 - (i + 1)) (cap - (i + 1)))) rfl (by kernel_rfl) (by kernel_rfl) (by kernel_rfl) (fun _ _ _ h => h) (by rfl) ?_ (by assumption) ?_; (intro _w; go_simp; skip); simp only [Act.put, List.setIfInBounds_toArray, List.set_cons_zero, List.set_cons_succ])
  (refine wpD_plain 5 (v := ?_) rfl (by kernel_rfl) (by kernel_rfl) (by kernel_rfl) (fun _ _ _ h => h) (by rfl) ?_ (by assumption) ?_; rotate_left; (intro _w; go_simp; try with_reducible rfl); simp only [Act.put, List.setIfInBounds_toArray, List.set_cons_zero, List.set_cons_succ])
  (refine wpD_plain 6 (v := ?_) rfl (by kernel_rfl) (by kernel_rfl) (by kernel_rfl) (fun _ _ _ h => h) (by rfl) ?_ (by assumption) ?_; rotate_left; (intro _w; go_simp; try with_reducible rfl); simp only [Act.put, List.setIfInBounds_toArray, List.set_cons_zero, List.set_cons_succ])
  (refine wpD_plain 7 (v := ?_) rfl (by kernel_rfl) (by kernel_rfl) (by kernel_rfl) (fun _ _ _ h => h) (by rfl) ?_ (by assumption) ?_; rotate_left; (intro _w; go_simp; try with_reducible rfl); simp only [Act.put, List.setIfInBounds_toArray, List.set_cons_zero, List.set_cons_succ])
  refine wpD_only 8 [] rfl (by kernel_rfl) (by kernel_rfl) (by rfl) (fun K8 hK8 => ?_)
  have hdl : (xs.drop (i * 1)).length = (n - i) * 1 := by rw [List.length_drop, Hxl.out]; have := HI.out; omega
  refine wp_copyK _ _ 62 62 rfl 9 1 rfl info_s g (i + 1) (n + 1 - (i + 1)) (cap - (i + 1)) ⟨g, i, none⟩ (n + 1 - i) (cap - i) rfl rfl 9 _ HG.out.drew (xs.drop (i * 1)) (by rw [hdl, show Nat.min (n + 1 - i) (n + 1 - (i + 1)) = n - i from (Nat.min_eq_right (by omega)).trans (by omega)])
    (cells_s w.drew HG.out.drew Htk.out (by omega))
    (by rw [hdl, Hcl.out]; have := HI.out; omega) (fun u hu => H1x.out u (List.mem_of_mem_drop hu)) ?_
  intro w3 HB3 HF3 HS3
  refine hK8 _ _ (Facts.nil_hold _) ?_
  simp only [Act.put, List.setIfInBounds_toArray, List.set_cons_zero, List.set_cons_succ]
  clear hK8 K8
  refine wpD_done (by kernel_rfl) ?_ _
  have hsp := spl_shift cur (xs.drop (i * 1)) x (i * 1) ((i + 1) * 1) (by rw [Hx.out]; omega) (by rw [hdl, Hcl.out]; have := HI.out; omega)
  have htt : cur.take (i * 1) = xs.take (i * 1) := by rw [← Htk.out, List.take_take, Nat.min_eq_left (Nat.mul_le_mul_right _ (Nat.le_of_lt HI.out))]
  rw [htt, hdl] at hsp
  have HSP := hid hsp; have HDL := hid hdl
  clear hsp hdl htt
  have HM : Hid (Nat.min 1 (n + 1 - i) = 1) := hid (Nat.min_eq_left (by have := HI.out; omega))
  go_wp2_with ((with_reducible show wpList _ _ _ ({ dst := _, op := .call { callee := .builtin .copy, args := _, argTypes := _ }, type := _, pos := _, after := _, guard := _ } :: _) _ _); refine wpL_copyK rfl _ _ 62 62 rfl 9 1 rfl info_s g i (n + 1 - i) (cap - i) ⟨bv, 0, none⟩ 1 1 rfl rfl 9 _ HB3.out x (by rw [Hx.out, HM.out]) ((HB.out.drew.fr HF3.out (fun e => Hne.out e)).news) (by rw [spl_length _ _ _ (by rw [HDL.out, Hcl.out]; have := HI.out; omega), Hcl.out, Hx.out]; have := HI.out; omega) H1.out ?_; intro w4 HB4 HF4 HS4)
  go_ret
  have hcur : (spl (spl cur (i + 1) (xs.drop (i * 1))) i x).take ((n + 1) * 1) = ys ∧ (spl (spl cur (i + 1) (xs.drop (i * 1))) i x).length = cap * 1 := by
    have h1 := HSP.out
    rw [show (i + 1) * 1 + (n - i) * 1 = (n + 1) * 1 from by have := HI.out; omega] at h1
    try simp only [Nat.mul_one] at h1 ⊢
    exact ⟨h1.1.trans (by have := Hys.out; simpa only [Nat.mul_one] using this), h1.2.trans (by have := Hcl.out; simpa only [Nat.mul_one] using this)⟩
  refine put_mk (own_mk HB4.out b7 HCM.out hcur.2 hcur.1) ?_ (.inl rfl)
  have ob : ∀ k, k = g → Ob (.slice (some ⟨g, 0, none⟩) n cap) k := fun k e => by subst e; rfl
  exact ((Fr.refl _ w).drew.trans' (HF3.out.mono ob)).trans' (HF4.out.mono ob)

theorem insert_s (w : World) (v : Value) (n i : Nat) (xs x : List Value) (bv : Nat) (hv : w.ownsRow 0 9 1 v n xs) (hi : i ≤ n) (hB : Blk w bv 9 x) (hx : x.length = 1) (h1 : ∀ u ∈ x, u.oneCell' = true) (h1x : ∀ u ∈ xs, u.oneCell' = true)
    (hne : v.ownBlock ≠ some bv) (hn : n + 1 ≤ 8796093022208) :
    Calls Try.prog 105 #[v, .int .i64 i, .slice (some ⟨bv, 0, none⟩) 1 1] w (Put w 9 1 v (n + 1) (xs.take (i * 1) ++ x ++ xs.drop (i * 1))) := by
  rcases Nat.lt_or_ge i n with hlt | hge
  · obtain ⟨g, cap, cur, rfl, hg, h2, h3, h4, h5⟩ := own_open hv (by omega)
    rcases Nat.lt_or_ge n cap with hc | hc
    · exact ins_shift_s w n i cap xs x cur bv g hB hx h1 hn hlt hg (fun e => hne (by rw [e]; rfl)) hc h3 h4 h5 h1x _ rfl
    · obtain rfl : cap = n := by omega
      exact ins_grow_s w cap i xs x cur bv g hB hx h1 hn hlt hg h4 h5 h1x _ rfl
  · obtain rfl : i = n := by omega
    have hl := hv.1
    rw [← hl, List.take_length, List.drop_length, List.append_nil]
    exact ins_end_s w v i xs x bv hv hB hx h1 hn
end Go.Proofs.Ytlnolnaapnijbaa.TR
