/-
  Part 3 of the proof: TrLs, TrMs, TrLp.
-/
import Derived.Test.YtflfmkokfbgclaaGreatRc02
set_option linter.unusedSimpArgs false
set_option linter.unusedVariables false
namespace Go.Proofs.YtflfmkokfbgclaaGreat.TR
set_option maxRecDepth 100000
open Go.RowKit K

theorem info_s : (Tryz.prog.info? 9).map (·.size) = some 1 := by kernel_rfl
theorem zero_s (w : World) : (zeroValue 9).run Tryz.prog w = .ok (.string ⟨#[]⟩) w := by kernel_rfl
theorem infom_s : (Tryz.prog.info? 9).map (fun i => (i.zero, i.size, i.bytes)) = some (some (.string ⟨#[]⟩), 1, 16) := by kernel_rfl
theorem infoz_s : ∃ i, Tryz.prog.info? 9 = some i ∧ i.zero = some (.string ⟨#[]⟩) ∧ i.size = 1 ∧ i.bytes = 16 := by
  have h := infom_s
  cases hq : Tryz.prog.info? 9 with
  | none => rw [hq] at h; cases h
  | some i =>
    rw [hq] at h
    simp only [Option.map_some, Option.some.injEq, Prod.mk.injEq] at h
    exact ⟨i, rfl, h.1, h.2.1, h.2.2⟩
theorem app_s {ops : Array Oper} {rest : List Oper} {op : Oper} {a : Act} {w : World} {Q : Exit → Act → World → Prop} (hgd : op.guard = none) (s x : Operand) (ho : op.op = .call { callee := .builtin .append, args := #[s, x], argTypes := #[118, 118] })
    (v : Value) (n : Nat) (xs : List Value) (hv : a.eval s = v) (hown : w.ownsRow 0 9 1 v n xs)
    (sp : Option Addr) (m c : Nat) (news : List Value) (hx : a.eval x = .slice sp m c) (hl : news.length = m * 1) (hsrc : m = 0 ∨ ∃ ad, sp = some ad ∧ ∀ j u, news[j]? = some u → w.cell? (ad.add j) = some u) (h1 : ∀ u ∈ news, u.oneCell' = true)
    (hb : n + m ≤ 8796093022208)
    (h : ∀ a' cap' w', Hid (w'.ownsRow 0 9 1 (.slice a' (n + m) cap') (n + m) (xs ++ news)) → Hid (w.grownBy w' v.ownBlock) → Hid ((Value.slice a' (n + m) cap').ownBlock = v.ownBlock ∨ (Value.slice a' (n + m) cap').ownBlock = some w.heap.size) →
      wpList Tryz.prog ops Q rest (a.put op.dst (.slice a' (n + m) cap')) w') : wpList Tryz.prog ops Q (op :: rest) a w := by
  obtain ⟨i, hi, hz, hs, hby⟩ := infoz_s
  exact wpL_append hgd s x 118 ho 0 9 i _ 1 16 rfl hi hz hs hby rfl (by decide) v n xs hv hown sp m c news hx hl hsrc h1 (by unfold maxLen; omega) (by omega) (Nat.zero_le _) h

set_option maxHeartbeats 1000000 in
theorem ins_end_s (w : World) (v : Value) (n : Nat) (xs x : List Value) (bv : Nat) (hv : w.ownsRow 0 9 1 v n xs) (hB : Blk w bv 9 x) (hx : x.length = 1) (h1 : ∀ u ∈ x, u.oneCell' = true) (hn : n + 1 ≤ 8796093022208) :
    Calls Tryz.prog 120 #[v, .int .i64 n, .slice (some ⟨bv, 0, none⟩) 1 1] w (Put w 9 1 v (n + 1) (xs ++ x)) := by
  have Hv := hid hv; have HB := hid hB; have Hx := hid hx; have H1 := hid h1
  clear hB hx h1
  have fin : Hid (∀ a' c' w', w'.ownsRow 0 9 1 (.slice a' (n + 1) c') (n + 1) (xs ++ x) → w.grownBy w' v.ownBlock → ((Value.slice a' (n + 1) c').ownBlock = v.ownBlock ∨ (Value.slice a' (n + 1) c').ownBlock = some w.heap.size) → Put w 9 1 v (n + 1) (xs ++ x) (.returned (.slice a' (n + 1) c')) w') := hid (by
    intro a' c' w' h1 h2 h3
    refine ⟨_, rfl, h1, ((Fr.refl (Ob v) w).grown h2 fun k hk => .inl hk), fun g hg => ?_⟩
    rcases h3 with h3 | h3
    · exact .inl (by rw [← h3]; exact hg)
    · exact .inr (by rw [h3] at hg; cases hg; exact Nat.le_refl _))
  rcases hv.2 with ⟨rfl, rfl⟩ | ⟨g, cap, cur, rfl, -, hg, hnc, hcm, -, -⟩
  · clear hv
    go_enter Tryz.func120, Tryz.ntmps120
    go_wp2_with ((with_reducible show wpList _ _ _ (⟨_, .call { callee := .builtin .append, args := _, argTypes := _ }, _, _, _, _⟩ :: _) _ _); refine app_s rfl _ _ rfl _ 0 xs rfl Hv.out (some ⟨bv, 0, none⟩) 1 1 x rfl (by rw [Hx.out]) (.inr ⟨_, rfl, HB.out.news⟩) H1.out (by omega) ?_; intro a' c' w1 HO HG HA)
    go_ret
    exact fin.out _ _ _ HO.out HG.out HA.out
  · clear hv hg
    unfold maxLen at hcm
    by_cases hcn : cap = n
    · have HFz := fin
      clear fin
      subst hcn
      go_enter Tryz.func120, Tryz.ntmps120
      go_wp2_with ((with_reducible show wpList _ _ _ (⟨_, .call { callee := .builtin .append, args := _, argTypes := _ }, _, _, _, _⟩ :: _) _ _); refine app_s rfl _ _ rfl _ cap xs rfl Hv.out (some ⟨bv, 0, none⟩) 1 1 x rfl (by rw [Hx.out]) (.inr ⟨_, rfl, HB.out.news⟩) H1.out (by omega) ?_; intro a' c' w1 HO HG HA)
      go_ret
      exact HFz.out _ _ _ HO.out HG.out HA.out
    · go_enter Tryz.func120, Tryz.ntmps120
      go_wp2_with ((with_reducible show wpList _ _ _ (⟨_, .call { callee := .builtin .append, args := _, argTypes := _ }, _, _, _, _⟩ :: _) _ _); refine app_s rfl _ _ rfl _ n xs rfl Hv.out (some ⟨bv, 0, none⟩) 1 1 x rfl (by rw [Hx.out]) (.inr ⟨_, rfl, HB.out.news⟩) H1.out (by omega) ?_; intro a' c' w1 HO HG HA)
      go_ret
      exact fin.out _ _ _ HO.out HG.out HA.out

theorem cells_s (w : World) {g : Nat} {cur xs : List Value} {n o p : Nat} (hB : Blk w g 9 cur) (ht : cur.take (n * 1) = xs) (hp : p = o) : ∀ j v, (xs.drop o)[j]? = some v → w.cell? ((⟨g, p, none⟩ : Addr).add j) = some v := fun j v hj => by
  subst hp
  rw [Addr.add_mid, hB.cell]
  rw [← ht, List.getElem?_drop, List.getElem?_take] at hj
  split at hj
  · exact hj
  · cases hj
set_option maxHeartbeats 1000000 in
theorem ins_grow_s (w : World) (n i : Nat) (xs x cur : List Value) (bv g : Nat) (hB : Blk w bv 9 x) (hx : x.length = 1) (h1 : ∀ u ∈ x, u.oneCell' = true) (hn : n + 1 ≤ 8796093022208) (hi : i < n)
    (hg : Blk w g 9 cur) (hcl : cur.length = n * 1) (htk : cur.take (n * 1) = xs) (h1x : ∀ u ∈ xs, u.oneCell' = true) (ys : List Value) (hys : xs.take (i * 1) ++ x ++ xs.drop (i * 1) = ys) :
    Calls Tryz.prog 120 #[.slice (some ⟨g, 0, none⟩) n n, .int .i64 i, .slice (some ⟨bv, 0, none⟩) 1 1] w (Put w 9 1 (.slice (some ⟨g, 0, none⟩) n n) (n + 1) ys) := by
  have Hys := hid hys
  clear hys
  obtain ⟨ti, hti, hz, hs, hby⟩ := infoz_s
  have hxl : xs.length = n * 1 := by rw [← htk, List.length_take, hcl, Nat.min_self]
  have HB := hid hB; have Hx := hid hx; have H1 := hid h1; have HG := hid hg; have Hcl := hid hcl; have Htk := hid htk; have H1x := hid h1x
  have Hti := hid hti; have Hz := hid hz; have Hs := hid hs; have Hby := hid hby; have Hxl := hid hxl
  have HI := hid hi
  clear hB hx h1 hg hcl htk h1x hti hz hs hby hxl
  have hne : ¬ (n = i) := by omega
  have b1 : ¬ ((i : Int) = n) := by omega
  have hin : (i : Int) < n := by omega
  have hin2 : (i : Int) ≤ (n : Int) + 1 := by omega
  have hp : (0 : Int) ≤ (n : Int) + 1 - i := by omega
  have hq : (n : Int) + 1 - i = ((n + 1 - i : Nat) : Int) := by omega
  have HQ := hid hq
  clear hq
  go_enter Tryz.func120, Tryz.ntmps120
  have hal : (xs.take (i * 1)).length = i * 1 := by rw [List.length_take, Hxl.out]; exact Nat.min_eq_left (Nat.mul_le_mul_right _ (Nat.le_of_lt HI.out))
  have Hal := hid hal; clear hal
  have h12 : Hid (i * 1 + 1 + (n - i) * 1 = (n + 1) * 1) := hid (by have := HI.out; omega)
  have WA : Hid (IntKind.i64.wrap ((i : Int) + 1) = (i : Int) + 1) := hid (by rw [IntKind.wrap_i64]; have := HI.out; omega)
  go_wp2_with (first
    | ((with_reducible show wpList _ _ _ (⟨_, .call { callee := .builtin .append, args := _, argTypes := _ }, _, _, _, _⟩ :: _) _ _); refine wpL_appendZ rfl _ _ 118 3 rfl 9 ti _ 1 .i64 .i64 rfl rfl Hti.out Hz.out Hs.out rfl (by decide) g i n (n + 1 - i) rfl (congrArg (Value.int .i64) HQ.out) 9 cur HG.out (xs.take (i * 1)) Hal.out (by rw [← Htk.out, List.take_take, Nat.min_eq_left (Nat.mul_le_mul_right _ (Nat.le_of_lt HI.out))]) (by omega) (by omega) (by have := HI.out; omega) (by unfold maxLen; omega) (by rw [Hby.out]; omega) ?_; intro w1 zs cap' hc1 hc2 hl HB1 HF1 HS1; have Hl1 := hid hl; clear hl; unfold maxLen at hc2; rw [show i + (n + 1 - i) = n + 1 from by have := HI.out; omega]; have Hzl : Hid (i * 1 + zs.length = cap' * 1) := hid (by have := Hl1.out; rw [List.length_append, Hal.out] at this; exact this))
    | ((with_reducible show wpList _ _ _ (⟨_, .call { callee := .builtin .copy, args := _, argTypes := _ }, _, _, _, _⟩ :: _) _ _); refine wpL_copyK rfl _ _ 118 118 rfl 9 1 rfl info_s w.heap.size i (n + 1 - i) (cap' - i) ⟨bv, 0, none⟩ 1 1 rfl rfl 9 _ HB1.out x (by rw [Hx.out, show Nat.min 1 (n + 1 - i) = 1 from Nat.min_eq_left (by have := HI.out; omega)]) (HB.out.fr HF1.out id).news (by rw [Hl1.out, Hx.out]; have := HI.out; omega) H1.out ?_; intro w2 HB2 HF2 HS2))
  refine wpD_region (Facts.nil_hold w2.drew) (by kernel_rfl) 9 rfl ?_
  have hold := Facts.nil_hold w2.drew
  (refine wpD_plain 0 (v := ?_) rfl (by kernel_rfl) (by kernel_rfl) (by kernel_rfl) (fun _ _ _ h => h) (by rfl) ?_ (by assumption) ?_; rotate_left; (intro _w; go_simp; try with_reducible rfl); simp only [Act.put, List.setIfInBounds_toArray, List.set_cons_zero, List.set_cons_succ])
  (refine wpD_plain 1 (v := ?_) rfl (by kernel_rfl) (by kernel_rfl) (by kernel_rfl) (fun _ _ _ h => h) (by rfl) ?_ (by assumption) ?_; rotate_left; (intro _w; go_simp; try with_reducible rfl); simp only [Act.put, List.setIfInBounds_toArray, List.set_cons_zero, List.set_cons_succ])
  (refine wpD_plain 2 (v := ?_) rfl (by kernel_rfl) (by kernel_rfl) (by kernel_rfl) (fun _ _ _ h => h) (by rfl) ?_ (by assumption) ?_; rotate_left; (intro _w; go_simp; try with_reducible rfl); simp only [Act.put, List.setIfInBounds_toArray, List.set_cons_zero, List.set_cons_succ])
  (refine wpD_plain 3 (v := (.int .i64 ((i : Int) + 1))) rfl (by kernel_rfl) (by kernel_rfl) (by kernel_rfl) (fun _ _ _ h => h) (by rfl) ?_ (by assumption) ?_; (intro _w; go_simp; exact WA.out); simp only [Act.put, List.setIfInBounds_toArray, List.set_cons_zero, List.set_cons_succ])
  have hb1 : (0 : Int) ≤ (i : Int) + 1 := by omega
  have hb2 : ¬ (cap' = i + 1) := by have := HI.out; omega
  have hb3 : (i : Int) ≤ (n : Int) := by omega
  have htn : ((i : Int) + 1).toNat = i + 1 := by omega
  (refine wpD_plain 4 (v := (.slice (some ⟨w.heap.size, (i + 1), none⟩) (n + 1 - (i + 1)) (cap' - (i + 1)))) rfl (by kernel_rfl) (by kernel_rfl) (by kernel_rfl) (fun _ _ _ h => h) (by rfl) ?_ (by assumption) ?_; (intro _w; go_simp; skip); simp only [Act.put, List.setIfInBounds_toArray, List.set_cons_zero, List.set_cons_succ])
  (refine wpD_plain 5 (v := ?_) rfl (by kernel_rfl) (by kernel_rfl) (by kernel_rfl) (fun _ _ _ h => h) (by rfl) ?_ (by assumption) ?_; rotate_left; (intro _w; go_simp; try with_reducible rfl); simp only [Act.put, List.setIfInBounds_toArray, List.set_cons_zero, List.set_cons_succ])
  (refine wpD_plain 6 (v := ?_) rfl (by kernel_rfl) (by kernel_rfl) (by kernel_rfl) (fun _ _ _ h => h) (by rfl) ?_ (by assumption) ?_; rotate_left; (intro _w; go_simp; try with_reducible rfl); simp only [Act.put, List.setIfInBounds_toArray, List.set_cons_zero, List.set_cons_succ])
  (refine wpD_plain 7 (v := ?_) rfl (by kernel_rfl) (by kernel_rfl) (by kernel_rfl) (fun _ _ _ h => h) (by rfl) ?_ (by assumption) ?_; rotate_left; (intro _w; go_simp; try with_reducible rfl); simp only [Act.put, List.setIfInBounds_toArray, List.set_cons_zero, List.set_cons_succ])
  refine wpD_only 8 [] rfl (by kernel_rfl) (by kernel_rfl) (by rfl) (fun K8 hK8 => ?_)
  have hdl : (xs.drop (i * 1)).length = (n - i) * 1 := by rw [List.length_drop, Hxl.out]; have := HI.out; omega
  refine wp_copyK _ _ 118 118 rfl 9 1 rfl info_s w.heap.size (i + 1) (n + 1 - (i + 1)) (cap' - (i + 1)) ⟨g, i, none⟩ (n - i) (n - i) rfl rfl 9 _ HB2.out.drew (xs.drop (i * 1)) (by rw [hdl, show Nat.min (n - i) (n + 1 - (i + 1)) = n - i from Nat.min_eq_left (by omega)])
    (cells_s w2.drew (((HG.out.fr HF1.out id).fr HF2.out (fun e => by have h1 : g = w.heap.size := e; have := HG.out.lt; omega)).drew) Htk.out (by omega))
    (by rw [hdl]; have h1 := (spl_length (xs.take (i * 1) ++ zs) i x (by rw [Hl1.out, Hx.out]; have := HI.out; omega)); rw [h1, Hl1.out]; have := HI.out; omega) (fun u hu => H1x.out u (List.mem_of_mem_drop hu)) ?_
  intro w3 HB3 HF3 HS3
  refine hK8 _ _ (Facts.nil_hold _) ?_
  simp only [Act.put, List.setIfInBounds_toArray, List.set_cons_zero, List.set_cons_succ]
  clear hK8 K8
  refine wpD_done (by kernel_rfl) ?_ _
  have hzx : x.length + (xs.drop (i * 1)).length ≤ zs.length := by rw [hdl, Hx.out]; have := Hzl.out; have := HI.out; omega
  have hsp := spl_new (xs.take (i * 1)) zs x (xs.drop (i * 1)) hzx
  have hlen : (xs.take (i * 1)).length + x.length = (i + 1) * 1 := by rw [Hal.out, Hx.out]; omega
  rw [hlen, Hal.out] at hsp
  have HSP := hid hsp; have HDL := hid hdl
  clear hsp hdl hzx hlen hb1 hb2 hb3 htn
  go_wp2
  go_ret
  have hcur : (spl (spl (xs.take (i * 1) ++ zs) i x) (i + 1) (xs.drop (i * 1))).take ((n + 1) * 1) = ys ∧ (spl (spl (xs.take (i * 1) ++ zs) i x) (i + 1) (xs.drop (i * 1))).length = cap' * 1 := by
    have h1 := HSP.out
    rw [HDL.out, show (i + 1) * 1 + (n - i) * 1 = (n + 1) * 1 from by have := HI.out; omega] at h1
    try simp only [Nat.mul_one] at h1 ⊢
    exact ⟨h1.1.trans (by have := Hys.out; simpa only [Nat.mul_one] using this), h1.2.trans (by have := Hl1.out; simpa only [Nat.mul_one] using this)⟩
  refine put_mk (own_mk HB3.out hc1 (by unfold maxLen; exact hc2) hcur.2 hcur.1) ?_ (.inr (Nat.le_refl _))
  exact ((HF1.out.no.trans (D' := fun k => k = w.heap.size) HF2.out (fun k e => .inr (by rw [e]; exact Nat.le_refl _))).drew).trans (D' := fun k => k = w.heap.size) HF3.out (fun k e => .inr (by rw [e]; exact Nat.le_refl _))

theorem over_s (w : World) (bv g o la ca lb cb : Nat) (x cur : List Value) (hB : Blk w bv 9 x) (hg : Blk w g 9 cur) (hne : bv ≠ g) (h0 : cur.length ≠ 0) :
    (callFunc 127 #[.slice (some ⟨bv, 0, none⟩) la ca, .slice (some ⟨g, o, none⟩) lb cb]).run Tryz.prog w = .ok (.value (.bool false)) w := by
  rw [run_callFunc_extern Tryz.func127 (by kernel_rfl) (by kernel_rfl) (by kernel_rfl) (e := Extern.SlicesOverlaps.overlaps #[118, 118] #[4]) (by kernel_rfl),
    Lib.run_overlaps_apart w 118 4 9 rfl 1 (by intro w; kernel_rfl) ⟨bv, 0, none⟩ ⟨g, o, none⟩ la ca lb cb hne 9 9 x.length cur.length (by
      have h : w.heap[bv]? = some (.cells x.toArray 9 (0, 0)) := hB
      simp [World.shape?, h]) (by
      have h : w.heap[g]? = some (.cells cur.toArray 9 (0, 0)) := hg
      simp [World.shape?, h]) h0 (hB.frozen 0) (hB.frozen _)]
  rfl
set_option maxHeartbeats 1000000 in
theorem ins_shift_s (w : World) (n i cap : Nat) (xs x cur : List Value) (bv g : Nat) (hB : Blk w bv 9 x) (hx : x.length = 1) (h1 : ∀ u ∈ x, u.oneCell' = true) (hn : n + 1 ≤ 8796093022208) (hi : i < n)
    (hg : Blk w g 9 cur) (hne : bv ≠ g) (hnc : n < cap) (hcm : cap ≤ maxLen) (hcl : cur.length = cap * 1) (htk : cur.take (n * 1) = xs) (h1x : ∀ u ∈ xs, u.oneCell' = true) (ys : List Value) (hys : xs.take (i * 1) ++ x ++ xs.drop (i * 1) = ys) :
    Calls Tryz.prog 120 #[.slice (some ⟨g, 0, none⟩) n cap, .int .i64 i, .slice (some ⟨bv, 0, none⟩) 1 1] w (Put w 9 1 (.slice (some ⟨g, 0, none⟩) n cap) (n + 1) ys) := by
  have Hys := hid hys
  have hxl : xs.length = n * 1 := by rw [← htk, List.length_take, hcl, Nat.min_eq_left (Nat.mul_le_mul_right _ (Nat.le_of_lt hnc))]
  have HOV : Hid (∀ la ca lb cb o, (callFunc 127 #[.slice (some ⟨bv, 0, none⟩) la ca, .slice (some ⟨g, o, none⟩) lb cb]).run Tryz.prog w = .ok (.value (.bool false)) w) := hid (fun la ca lb cb o => over_s w bv g o la ca lb cb x cur hB hg hne (by rw [hcl]; omega))
  have HB := hid hB; have Hx := hid hx; have H1 := hid h1; have HG := hid hg; have Hcl := hid hcl; have Htk := hid htk; have H1x := hid h1x
  have Hxl := hid hxl; have Hne := hid hne
  have HI := hid hi
  have HCM := hid hcm
  unfold maxLen at hcm
  clear hB hx h1 hg hcl htk h1x hxl hys hne
  have WA : Hid (IntKind.i64.wrap ((i : Int) + 1) = (i : Int) + 1) := hid (by rw [IntKind.wrap_i64]; have := HI.out; omega)
  have b2 : ¬ (cap = i) := by omega
  have b3 : ¬ (cap = i + 1) := by omega
  have b1 : ¬ ((i : Int) = n) := by omega
  have b4 : ¬ ((n : Int) + 1 > cap) := by omega
  have b5 : (n : Int) + 1 ≤ cap := by omega
  have b7 : n + 1 ≤ cap := by omega
  have hb1 : (0 : Int) ≤ (i : Int) + 1 := by omega
  have hb3 : (i : Int) ≤ (n : Int) := by omega
  have hb4 : (i : Int) ≤ (n : Int) + 1 := by omega
  have htn : ((i : Int) + 1).toNat = i + 1 := by omega
  go_enter Tryz.func120, Tryz.ntmps120
  go_wp2_with fail
  rw [HOV.out]
  go_wp2_with fail
  refine wpD_region (Facts.nil_hold w.drew) (by kernel_rfl) 9 rfl ?_
  have hold := Facts.nil_hold w.drew
  (refine wpD_plain 0 (v := ?_) rfl (by kernel_rfl) (by kernel_rfl) (by kernel_rfl) (fun _ _ _ h => h) (by rfl) ?_ (by assumption) ?_; rotate_left; (intro _w; go_simp; try with_reducible rfl); simp only [Act.put, List.setIfInBounds_toArray, List.set_cons_zero, List.set_cons_succ])
  (refine wpD_plain 1 (v := ?_) rfl (by kernel_rfl) (by kernel_rfl) (by kernel_rfl) (fun _ _ _ h => h) (by rfl) ?_ (by assumption) ?_; rotate_left; (intro _w; go_simp; try with_reducible rfl); simp only [Act.put, List.setIfInBounds_toArray, List.set_cons_zero, List.set_cons_succ])
  (refine wpD_plain 2 (v := ?_) rfl (by kernel_rfl) (by kernel_rfl) (by kernel_rfl) (fun _ _ _ h => h) (by rfl) ?_ (by assumption) ?_; rotate_left; (intro _w; go_simp; try with_reducible rfl); simp only [Act.put, List.setIfInBounds_toArray, List.set_cons_zero, List.set_cons_succ])
  (refine wpD_plain 3 (v := (.int .i64 ((i : Int) + 1))) rfl (by kernel_rfl) (by kernel_rfl) (by kernel_rfl) (fun _ _ _ h => h) (by rfl) ?_ (by assumption) ?_; (intro _w; go_simp; exact WA.out); simp only [Act.put, List.setIfInBounds_toArray, List.set_cons_zero, List.set_cons_succ])
  (refine wpD_plain 4 (v := (.slice (some ⟨g, (i + 1), none⟩) (n + 1 - (i + 1)) (cap - (i + 1)))) rfl (by kernel_rfl) (by kernel_rfl) (by kernel_rfl) (fun _ _ _ h => h) (by rfl) ?_ (by assumption) ?_; (intro _w; go_simp; skip); simp only [Act.put, List.setIfInBounds_toArray, List.set_cons_zero, List.set_cons_succ])
  (refine wpD_plain 5 (v := ?_) rfl (by kernel_rfl) (by kernel_rfl) (by kernel_rfl) (fun _ _ _ h => h) (by rfl) ?_ (by assumption) ?_; rotate_left; (intro _w; go_simp; try with_reducible rfl); simp only [Act.put, List.setIfInBounds_toArray, List.set_cons_zero, List.set_cons_succ])
  (refine wpD_plain 6 (v := ?_) rfl (by kernel_rfl) (by kernel_rfl) (by kernel_rfl) (fun _ _ _ h => h) (by rfl) ?_ (by assumption) ?_; rotate_left; (intro _w; go_simp; try with_reducible rfl); simp only [Act.put, List.setIfInBounds_toArray, List.set_cons_zero, List.set_cons_succ])
  (refine wpD_plain 7 (v := ?_) rfl (by kernel_rfl) (by kernel_rfl) (by kernel_rfl) (fun _ _ _ h => h) (by rfl) ?_ (by assumption) ?_; rotate_left; (intro _w; go_simp; try with_reducible rfl); simp only [Act.put, List.setIfInBounds_toArray, List.set_cons_zero, List.set_cons_succ])
  refine wpD_only 8 [] rfl (by kernel_rfl) (by kernel_rfl) (by rfl) (fun K8 hK8 => ?_)
  have hdl : (xs.drop (i * 1)).length = (n - i) * 1 := by rw [List.length_drop, Hxl.out]; have := HI.out; omega
  refine wp_copyK _ _ 118 118 rfl 9 1 rfl info_s g (i + 1) (n + 1 - (i + 1)) (cap - (i + 1)) ⟨g, i, none⟩ (n + 1 - i) (cap - i) rfl rfl 9 _ HG.out.drew (xs.drop (i * 1)) (by rw [hdl, show Nat.min (n + 1 - i) (n + 1 - (i + 1)) = n - i from (Nat.min_eq_right (by omega)).trans (by omega)])
    (cells_s w.drew HG.out.drew Htk.out (by omega))
    (by rw [hdl, Hcl.out]; have := HI.out; omega) (fun u hu => H1x.out u (List.mem_of_mem_drop hu)) ?_
  intro w3 HB3 HF3 HS3
  refine hK8 _ _ (Facts.nil_hold _) ?_
  simp only [Act.put, List.setIfInBounds_toArray, List.set_cons_zero, List.set_cons_succ]
  clear hK8 K8
  refine wpD_done (by kernel_rfl) ?_ _
  have hsp := spl_shift cur (xs.drop (i * 1)) x (i * 1) ((i + 1) * 1) (by rw [Hx.out]; omega) (by rw [hdl, Hcl.out]; have := HI.out; omega)
  have htt : cur.take (i * 1) = xs.take (i * 1) := by rw [← Htk.out, List.take_take, Nat.min_eq_left (Nat.mul_le_mul_right _ (Nat.le_of_lt HI.out))]
  rw [htt, hdl] at hsp
  have HSP := hid hsp; have HDL := hid hdl
  clear hsp hdl htt
  have HM : Hid (Nat.min 1 (n + 1 - i) = 1) := hid (Nat.min_eq_left (by have := HI.out; omega))
  go_wp2_with ((with_reducible show wpList _ _ _ (⟨_, .call { callee := .builtin .copy, args := _, argTypes := _ }, _, _, _, _⟩ :: _) _ _); refine wpL_copyK rfl _ _ 118 118 rfl 9 1 rfl info_s g i (n + 1 - i) (cap - i) ⟨bv, 0, none⟩ 1 1 rfl rfl 9 _ HB3.out x (by rw [Hx.out, HM.out]) ((HB.out.drew.fr HF3.out (fun e => Hne.out e)).news) (by rw [spl_length _ _ _ (by rw [HDL.out, Hcl.out]; have := HI.out; omega), Hcl.out, Hx.out]; have := HI.out; omega) H1.out ?_; intro w4 HB4 HF4 HS4)
  go_ret
  have hcur : (spl (spl cur (i + 1) (xs.drop (i * 1))) i x).take ((n + 1) * 1) = ys ∧ (spl (spl cur (i + 1) (xs.drop (i * 1))) i x).length = cap * 1 := by
    have h1 := HSP.out
    rw [show (i + 1) * 1 + (n - i) * 1 = (n + 1) * 1 from by have := HI.out; omega] at h1
    try simp only [Nat.mul_one] at h1 ⊢
    exact ⟨h1.1.trans (by have := Hys.out; simpa only [Nat.mul_one] using this), h1.2.trans (by have := Hcl.out; simpa only [Nat.mul_one] using this)⟩
  refine put_mk (own_mk HB4.out b7 HCM.out hcur.2 hcur.1) ?_ (.inl rfl)
  have ob : ∀ k, k = g → Ob (.slice (some ⟨g, 0, none⟩) n cap) k := fun k e => by subst e; rfl
  exact ((Fr.refl _ w).drew.trans' (HF3.out.mono ob)).trans' (HF4.out.mono ob)

theorem insert_s (w : World) (v : Value) (n i : Nat) (xs x : List Value) (bv : Nat) (hv : w.ownsRow 0 9 1 v n xs) (hi : i ≤ n) (hB : Blk w bv 9 x) (hx : x.length = 1) (h1 : ∀ u ∈ x, u.oneCell' = true) (h1x : ∀ u ∈ xs, u.oneCell' = true)
    (hne : v.ownBlock ≠ some bv) (hn : n + 1 ≤ 8796093022208) :
    Calls Tryz.prog 120 #[v, .int .i64 i, .slice (some ⟨bv, 0, none⟩) 1 1] w (Put w 9 1 v (n + 1) (xs.take (i * 1) ++ x ++ xs.drop (i * 1))) := by
  rcases Nat.lt_or_ge i n with hlt | hge
  · obtain ⟨g, cap, cur, rfl, hg, h2, h3, h4, h5⟩ := own_open hv (by omega)
    rcases Nat.lt_or_ge n cap with hc | hc
    · exact ins_shift_s w n i cap xs x cur bv g hB hx h1 hn hlt hg (fun e => hne (by rw [e]; rfl)) hc h3 h4 h5 h1x _ rfl
    · obtain rfl : cap = n := by omega
      exact ins_grow_s w cap i xs x cur bv g hB hx h1 hn hlt hg h4 h5 h1x _ rfl
  · obtain rfl : i = n := by omega
    have hl := hv.1
    rw [← hl, List.take_length, List.drop_length, List.append_nil]
    exact ins_end_s w v i xs x bv hv hB hx h1 hn
end Go.Proofs.YtflfmkokfbgclaaGreat.TR

namespace Go.Proofs.YtflfmkokfbgclaaGreat.TR
set_option maxRecDepth 100000
open Go.RowKit K

theorem one_s : ∀ v ∈ ((.string ⟨#[]⟩ : Value)).cells, v.oneCell' = true := by decide
set_option maxHeartbeats 1000000 in
theorem clone_s (w : World) (a : Option Addr) (m c : Nat) (news : List Value) (hl : news.length = m * 1) (hsrc : m = 0 ∨ ∃ ad, a = some ad ∧ ∀ j u, news[j]? = some u → w.cell? (ad.add j) = some u) (h1 : ∀ u ∈ news, u.oneCell' = true) (hm : m ≤ 8796093022208) :
    Calls Tryz.prog 129 #[.slice a m c] w (Put w 9 1 (.slice none 0 0) m news) := by
  cases a with
  | none =>
    have h0 : m = 0 := hsrc.elim id fun ⟨ad, h, _⟩ => by cases h
    subst h0
    obtain rfl : news = [] := List.eq_nil_of_length_eq_zero (by simpa using hl)
    clear hsrc
    have heq : ∀ w, (binOp .eql 118 (.slice none 0 c) (.slice none 0 0)).run Tryz.prog w = .ok (.bool true) w := fun w => Lib.run_eql_slice_nil w _ 9 none 0 c 0 0 rfl
    go_enter Tryz.func129, Tryz.ntmps129
    go_wp2
    go_ret
    exact ⟨_, rfl, ⟨by simp, .inl ⟨rfl, rfl⟩⟩, Fr.refl _ _, fun g hg => by cases hg⟩
  | some ad =>
    have Hl := hid hl; have Hs := hid hsrc; have H1 := hid h1
    clear hl hsrc h1
    have heq : ∀ w, (binOp .eql 118 (.slice (some ad) m c) (.slice none 0 0)).run Tryz.prog w = .ok (.bool false) w := fun w => Lib.run_eql_slice_nil w _ 9 (some ad) m c 0 0 rfl
    go_enter Tryz.func129, Tryz.ntmps129
    go_wp2_with (first
      | ((with_reducible show wpList _ _ _ (⟨_, .buildSlice 118 _ _, _, _, _, _⟩ :: _) _ _); refine wpL_buildNone rfl 118 9 rfl (fun w => by kernel_rfl) ?_; intro w1 HB1 HF1 HS1; have HO : Hid (w1.ownsRow 0 9 1 (.slice (some ⟨w.heap.size, 0, none⟩) 0 0) 0 []) := hid (own_mk HB1.out (Nat.le_refl _) (Nat.zero_le _) rfl rfl))
      | ((with_reducible show wpList _ _ _ (⟨_, .call { callee := .builtin .append, args := _, argTypes := _ }, _, _, _, _⟩ :: _) _ _); refine app_s rfl _ _ rfl _ 0 [] rfl HO.out (some ad) m c news rfl Hl.out (Hs.out.imp id fun ⟨ad', h1, h2⟩ => ⟨ad', h1, fun j u hj => HF1.out.cell (h2 j u hj) id⟩) H1.out (by omega) ?_; intro a' c' w2 HO2 HG2 HA2))
    go_ret
    refine ⟨_, rfl, by have := HO2.out; simpa using this, ?_, fun g hg => ?_⟩
    · exact HF1.out.no.grown HG2.out (fun k hk => .inr (by cases hk; exact Nat.le_refl _))
    · right
      have hg' : (Value.slice a' (0 + m) c').ownBlock = some g := by rw [Nat.zero_add]; exact hg
      rcases HA2.out with h | h
      · rw [h] at hg'; cases hg'; exact Nat.le_refl _
      · rw [h] at hg'; cases hg'; rw [HS1.out]; omega
set_option maxHeartbeats 1000000 in
theorem del_some_s (w : World) (n i j cap g : Nat) (xs cur ys : List Value) (hg : Blk w g 9 cur) (hij : i < j) (hj : j ≤ n) (hnc : n ≤ cap) (hcm : cap ≤ maxLen) (hcl : cur.length = cap * 1) (htk : cur.take (n * 1) = xs) (h1x : ∀ u ∈ xs, u.oneCell' = true) (hys : xs.take (i * 1) ++ xs.drop (j * 1) = ys) :
    Calls Tryz.prog 117 #[.slice (some ⟨g, 0, none⟩) n cap, .int .i64 i, .int .i64 j] w (Put w 9 1 (.slice (some ⟨g, 0, none⟩) n cap) (n - (j - i)) ys) := by
  obtain ⟨ti, hti, hz, hs, hby⟩ := infoz_s
  have hxl : xs.length = n * 1 := by rw [← htk, List.length_take, hcl, Nat.min_eq_left (Nat.mul_le_mul_right _ hnc)]
  have HG := hid hg; have Hcl := hid hcl; have Htk := hid htk; have H1x := hid h1x; have Hys := hid hys; have Hxl := hid hxl; have HI := hid hij; have HJ := hid hj; have Hti := hid hti; have Hs := hid hs; have HN := hid hnc; have HCM := hid hcm
  unfold maxLen at hcm
  clear hg hcl htk h1x hys hxl hti hz hs hby
  have b1 : ((i : Int) == j) = false := by rw [beq_eq_false_iff_ne]; omega
  have b2 : ¬ ((i : Int) = j) := by omega
  have b3 : (i : Int) ≤ j := by omega
  have b4 : (j : Int) ≤ n := by omega
  have b5 : (i : Int) ≤ n := by omega
  have b6 : i ≤ j := by omega
  have b7 : i ≤ cap := by omega
  have b8 : j ≤ n := by omega
  have b9 : i + (n - j) ≤ n := by omega
  have b10 : (n : Int) ≤ cap := by omega
  have b11 : ¬ (cap = i + (n - j)) := by omega
  have b12 : i + (n - j) ≤ cap := by omega
  have b13 : (0 : Int) ≤ ((i + (n - j) : Nat) : Int) := by omega
  go_enter Tryz.func117, Tryz.ntmps117
  go_wp2_with fail
  refine wpD_region (Facts.nil_hold w.drew) (by kernel_rfl) 8 rfl ?_
  have hold := Facts.nil_hold w.drew
  (refine wpD_plain 0 (v := ?_) rfl (by kernel_rfl) (by kernel_rfl) (by kernel_rfl) (fun _ _ _ h => h) (by rfl) ?_ (by assumption) ?_; rotate_left; (intro _w; go_simp; try with_reducible rfl); simp only [Act.put, List.setIfInBounds_toArray, List.set_cons_zero, List.set_cons_succ])
  (refine wpD_plain 1 (v := ?_) rfl (by kernel_rfl) (by kernel_rfl) (by kernel_rfl) (fun _ _ _ h => h) (by rfl) ?_ (by assumption) ?_; rotate_left; (intro _w; go_simp; try with_reducible rfl); simp only [Act.put, List.setIfInBounds_toArray, List.set_cons_zero, List.set_cons_succ])
  (refine wpD_plain 2 (v := ?_) rfl (by kernel_rfl) (by kernel_rfl) (by kernel_rfl) (fun _ _ _ h => h) (by rfl) ?_ (by assumption) ?_; rotate_left; (intro _w; go_simp; try with_reducible rfl); simp only [Act.put, List.setIfInBounds_toArray, List.set_cons_zero, List.set_cons_succ])
  (refine wpD_plain 3 (v := ?_) rfl (by kernel_rfl) (by kernel_rfl) (by kernel_rfl) (fun _ _ _ h => h) (by rfl) ?_ (by assumption) ?_; rotate_left; (intro _w; go_simp; try with_reducible rfl); simp only [Act.put, List.setIfInBounds_toArray, List.set_cons_zero, List.set_cons_succ])
  (refine wpD_plain 4 (v := ?_) rfl (by kernel_rfl) (by kernel_rfl) (by kernel_rfl) (fun _ _ _ h => h) (by rfl) ?_ (by assumption) ?_; rotate_left; (intro _w; go_simp; try with_reducible rfl); simp only [Act.put, List.setIfInBounds_toArray, List.set_cons_zero, List.set_cons_succ])
  (refine wpD_plain 5 (v := (.slice (if cap = j then some ⟨g, 0, none⟩ else some ⟨g, j, none⟩) (n - j) (cap - j))) rfl (by kernel_rfl) (by kernel_rfl) (by kernel_rfl) (fun _ _ _ h => h) (by rfl) ?_ (by assumption) ?_; (intro _w; go_simp; skip); simp only [Act.put, List.setIfInBounds_toArray, List.set_cons_zero, List.set_cons_succ])
  obtain ⟨ad, had, hcel⟩ : ∃ ad, (if cap = j then some (⟨g, 0, none⟩ : Addr) else some ⟨g, j, none⟩) = some ad ∧ ∀ q u, (xs.drop (j * 1))[q]? = some u → w.drew.cell? (ad.add q) = some u := by
    by_cases hc : cap = j
    · refine ⟨_, if_pos hc, fun q u hu => ?_⟩
      have h0 : xs.drop (j * 1) = [] := List.drop_eq_nil_of_le (by rw [Hxl.out]; have := HJ.out; omega)
      rw [h0] at hu; cases hu
    · exact ⟨_, if_neg hc, cells_s w.drew HG.out.drew Htk.out (by omega)⟩
  rw [had]
  have HCE := hid hcel
  clear had hcel
  have hdl : (xs.drop (j * 1)).length = (n - j) * 1 := by rw [List.length_drop, Hxl.out]; have := HJ.out; omega
  have HDL := hid hdl
  clear hdl
  refine wpD_only 6 [] rfl (by kernel_rfl) (by kernel_rfl) (by rfl) (fun K6 hK6 => ?_)
  refine wp_appendR _ _ 118 rfl 9 ti 1 rfl Hti.out Hs.out g i cap (n - j) (cap - j) ad rfl rfl 9 cur HG.out.drew (xs.drop (j * 1)) HDL.out HCE.out (fun u hu => H1x.out u (List.mem_of_mem_drop hu)) (by have := HI.out; have := HJ.out; have := HN.out; omega) (by rw [HDL.out, Hcl.out]; have := HI.out; have := HJ.out; have := HN.out; omega) ?_
  intro w1 HB1 HF1 HS1
  refine hK6 _ _ (Facts.nil_hold _) ?_
  simp only [Act.put, List.setIfInBounds_toArray, List.set_cons_zero, List.set_cons_succ]
  clear hK6 K6 hold
  have hold := Facts.nil_hold w1
  (refine wpD_plain 7 (v := ?_) rfl (by kernel_rfl) (by kernel_rfl) (by kernel_rfl) (fun _ _ _ h => h) (by rfl) ?_ (by assumption) ?_; rotate_left; (intro _w; go_simp; try with_reducible rfl); simp only [Act.put, List.setIfInBounds_toArray, List.set_cons_zero, List.set_cons_succ])
  refine wpD_done (by kernel_rfl) ?_ _
  clear hold
  have hn2 : i + (n - j) = n - (j - i) := by omega
  have h3 : spl cur (i * 1) (xs.drop (j * 1)) = ys ++ cur.drop (i * 1 + (n - j) * 1) := by
    unfold spl
    rw [HDL.out, ← Hys.out, show cur.take (i * 1) = xs.take (i * 1) from by rw [← Htk.out, List.take_take, Nat.min_eq_left (Nat.mul_le_mul_right _ (by have := HI.out; have := HJ.out; omega))]]
  have h4 : ys.length = (n - (j - i)) * 1 := by rw [← Hys.out, List.length_append, List.length_take, Hxl.out, HDL.out, Nat.min_eq_left (Nat.mul_le_mul_right _ (by omega))]; omega
  have H3 := hid h3; have H4 := hid h4; have H2 := hid hn2
  clear h3 h4 hn2
  generalize hq : i + (n - j) = q at *
  have HQ := hid hq
  clear hq
  have b14 : q < n := by have := HQ.out; have := HI.out; have := HJ.out; omega
  go_wp2_with ((with_reducible show wpList _ _ _ (⟨_, .call { callee := .builtin .clear, args := _, argTypes := _ }, _, _, _, _⟩ :: _) _ _); refine wpL_clearK rfl _ 118 9 rfl rfl (.string ⟨#[]⟩) 1 rfl zero_s rfl one_s g q (n - q) (cap - q) rfl 9 _ HB1.out (by rw [spl_length _ _ _ (by rw [HDL.out, Hcl.out]; have := HI.out; have := HJ.out; have := HN.out; omega), Hcl.out]; have := HN.out; omega) ?_; intro w2 zs hzs HB2 HF2 HS2; have HZ := hid hzs; clear hzs)
  go_ret
  rw [← H2.out]
  have hl1 : (spl cur (i * 1) (xs.drop (j * 1))).length = cap * 1 := by rw [spl_length _ _ _ (by rw [HDL.out, Hcl.out]; have := HI.out; have := HJ.out; have := HN.out; omega), Hcl.out]
  refine put_mk (own_mk HB2.out b12 HCM.out (by rw [spl_length _ _ _ (by rw [hl1, HZ.out]; have := HN.out; omega), hl1]) ?_) ?_ (.inl rfl)
  · have h4 := H4.out
    rw [← H2.out] at h4
    rw [H3.out]
    unfold spl
    have e1 : q = ys.length := by rw [h4]; try omega
    rw [show q * 1 = ys.length from h4.symm]
    try rw [e1]
    rw [List.take_left, List.append_assoc, List.take_left]
  · have ob : ∀ k, k = g → Ob (.slice (some ⟨g, 0, none⟩) n cap) k := fun k e => by subst e; rfl
    exact ((Fr.refl _ w).drew.trans' (HF1.out.mono ob)).trans' (HF2.out.mono ob)
set_option maxHeartbeats 1000000 in
theorem del_none_s (w : World) (v : Value) (n i : Nat) (xs : List Value) (hv : w.ownsRow 0 9 1 v n xs) (hi : i ≤ n) (hn : n ≤ 8796093022208) :
    Calls Tryz.prog 117 #[v, .int .i64 i, .int .i64 i] w (Put w 9 1 v n xs) := by
  have hfin : Hid (Put w 9 1 v n xs (.returned v) w) := hid ⟨v, rfl, hv, Fr.refl _ _, fun g h => .inl h⟩
  rcases hv.2 with ⟨rfl, rfl⟩ | ⟨g, cap, cur, rfl, -, -, hnc, hcm, -, -⟩
  · obtain rfl : i = 0 := by omega
    clear hv
    go_enter Tryz.func117, Tryz.ntmps117
    go_wp2
    go_ret
    exact hfin.out
  · clear hv
    unfold maxLen at hcm
    have b5 : (i : Int) ≤ n := by omega
    have b10 : (n : Int) ≤ cap := by omega
    by_cases hin : n = i
    · have HFZ := hfin
      clear hfin
      subst hin
      go_enter Tryz.func117, Tryz.ntmps117
      go_wp2
      go_ret
      exact HFZ.out
    · go_enter Tryz.func117, Tryz.ntmps117
      go_wp2
      go_ret
      exact hfin.out
theorem delete_s (w : World) (v : Value) (n i j : Nat) (xs : List Value) (hv : w.ownsRow 0 9 1 v n xs) (hij : i ≤ j) (hj : j ≤ n) (hn : n ≤ 8796093022208) (h1x : ∀ u ∈ xs, u.oneCell' = true) :
    Calls Tryz.prog 117 #[v, .int .i64 i, .int .i64 j] w (Put w 9 1 v (n - (j - i)) (xs.take (i * 1) ++ xs.drop (j * 1))) := by
  rcases Nat.lt_or_ge i j with hlt | hge
  · obtain ⟨g, cap, cur, rfl, hg, h2, h3, h4, h5⟩ := own_open hv (by omega)
    exact del_some_s w n i j cap g xs cur _ hg hlt hj h2 h3 h4 h5 h1x rfl
  · obtain rfl : i = j := by omega
    rw [List.take_append_drop, Nat.sub_self, Nat.sub_zero]
    exact del_none_s w v n i xs hv hj hn
end Go.Proofs.YtflfmkokfbgclaaGreat.TR

namespace Go.Proofs.YtflfmkokfbgclaaGreat.TR
set_option maxRecDepth 100000
open Go.RowKit K

theorem info_p : (Tryz.prog.info? 134).map (·.size) = some 2 := by kernel_rfl
theorem zero_p (w : World) : (zeroValue 134).run Tryz.prog w = .ok (.agg #[.pointer none, .pointer none]) w := by kernel_rfl
theorem infom_p : (Tryz.prog.info? 134).map (fun i => (i.zero, i.size, i.bytes)) = some (some (.agg #[.pointer none, .pointer none]), 2, 16) := by kernel_rfl
theorem infoz_p : ∃ i, Tryz.prog.info? 134 = some i ∧ i.zero = some (.agg #[.pointer none, .pointer none]) ∧ i.size = 2 ∧ i.bytes = 16 := by
  have h := infom_p
  cases hq : Tryz.prog.info? 134 with
  | none => rw [hq] at h; cases h
  | some i =>
    rw [hq] at h
    simp only [Option.map_some, Option.some.injEq, Prod.mk.injEq] at h
    exact ⟨i, rfl, h.1, h.2.1, h.2.2⟩
theorem app_p {ops : Array Oper} {rest : List Oper} {op : Oper} {a : Act} {w : World} {Q : Exit → Act → World → Prop} (hgd : op.guard = none) (s x : Operand) (ho : op.op = .call { callee := .builtin .append, args := #[s, x], argTypes := #[165, 165] })
    (v : Value) (n : Nat) (xs : List Value) (hv : a.eval s = v) (hown : w.ownsRow 0 134 2 v n xs)
    (sp : Option Addr) (m c : Nat) (news : List Value) (hx : a.eval x = .slice sp m c) (hl : news.length = m * 2) (hsrc : m = 0 ∨ ∃ ad, sp = some ad ∧ ∀ j u, news[j]? = some u → w.cell? (ad.add j) = some u) (h1 : ∀ u ∈ news, u.oneCell' = true)
    (hb : n + m ≤ 8796093022208)
    (h : ∀ a' cap' w', Hid (w'.ownsRow 0 134 2 (.slice a' (n + m) cap') (n + m) (xs ++ news)) → Hid (w.grownBy w' v.ownBlock) → Hid ((Value.slice a' (n + m) cap').ownBlock = v.ownBlock ∨ (Value.slice a' (n + m) cap').ownBlock = some w.heap.size) →
      wpList Tryz.prog ops Q rest (a.put op.dst (.slice a' (n + m) cap')) w') : wpList Tryz.prog ops Q (op :: rest) a w := by
  obtain ⟨i, hi, hz, hs, hby⟩ := infoz_p
  exact wpL_append hgd s x 165 ho 0 134 i _ 2 16 rfl hi hz hs hby rfl (by decide) v n xs hv hown sp m c news hx hl hsrc h1 (by unfold maxLen; omega) (by omega) (Nat.zero_le _) h

set_option maxHeartbeats 1000000 in
theorem ins_end_p (w : World) (v : Value) (n : Nat) (xs x : List Value) (bv : Nat) (hv : w.ownsRow 0 134 2 v n xs) (hB : Blk w bv 134 x) (hx : x.length = 2) (h1 : ∀ u ∈ x, u.oneCell' = true) (hn : n + 1 ≤ 8796093022208) :
    Calls Tryz.prog 123 #[v, .int .i64 n, .slice (some ⟨bv, 0, none⟩) 1 1] w (Put w 134 2 v (n + 1) (xs ++ x)) := by
  have Hv := hid hv; have HB := hid hB; have Hx := hid hx; have H1 := hid h1
  clear hB hx h1
  have fin : Hid (∀ a' c' w', w'.ownsRow 0 134 2 (.slice a' (n + 1) c') (n + 1) (xs ++ x) → w.grownBy w' v.ownBlock → ((Value.slice a' (n + 1) c').ownBlock = v.ownBlock ∨ (Value.slice a' (n + 1) c').ownBlock = some w.heap.size) → Put w 134 2 v (n + 1) (xs ++ x) (.returned (.slice a' (n + 1) c')) w') := hid (by
    intro a' c' w' h1 h2 h3
    refine ⟨_, rfl, h1, ((Fr.refl (Ob v) w).grown h2 fun k hk => .inl hk), fun g hg => ?_⟩
    rcases h3 with h3 | h3
    · exact .inl (by rw [← h3]; exact hg)
    · exact .inr (by rw [h3] at hg; cases hg; exact Nat.le_refl _))
  rcases hv.2 with ⟨rfl, rfl⟩ | ⟨g, cap, cur, rfl, -, hg, hnc, hcm, -, -⟩
  · clear hv
    go_enter Tryz.func123, Tryz.ntmps123
    go_wp2_with ((with_reducible show wpList _ _ _ (⟨_, .call { callee := .builtin .append, args := _, argTypes := _ }, _, _, _, _⟩ :: _) _ _); refine app_p rfl _ _ rfl _ 0 xs rfl Hv.out (some ⟨bv, 0, none⟩) 1 1 x rfl (by rw [Hx.out]) (.inr ⟨_, rfl, HB.out.news⟩) H1.out (by omega) ?_; intro a' c' w1 HO HG HA)
    go_ret
    exact fin.out _ _ _ HO.out HG.out HA.out
  · clear hv hg
    unfold maxLen at hcm
    by_cases hcn : cap = n
    · have HFz := fin
      clear fin
      subst hcn
      go_enter Tryz.func123, Tryz.ntmps123
      go_wp2_with ((with_reducible show wpList _ _ _ (⟨_, .call { callee := .builtin .append, args := _, argTypes := _ }, _, _, _, _⟩ :: _) _ _); refine app_p rfl _ _ rfl _ cap xs rfl Hv.out (some ⟨bv, 0, none⟩) 1 1 x rfl (by rw [Hx.out]) (.inr ⟨_, rfl, HB.out.news⟩) H1.out (by omega) ?_; intro a' c' w1 HO HG HA)
      go_ret
      exact HFz.out _ _ _ HO.out HG.out HA.out
    · go_enter Tryz.func123, Tryz.ntmps123
      go_wp2_with ((with_reducible show wpList _ _ _ (⟨_, .call { callee := .builtin .append, args := _, argTypes := _ }, _, _, _, _⟩ :: _) _ _); refine app_p rfl _ _ rfl _ n xs rfl Hv.out (some ⟨bv, 0, none⟩) 1 1 x rfl (by rw [Hx.out]) (.inr ⟨_, rfl, HB.out.news⟩) H1.out (by omega) ?_; intro a' c' w1 HO HG HA)
      go_ret
      exact fin.out _ _ _ HO.out HG.out HA.out

theorem cells_p (w : World) {g : Nat} {cur xs : List Value} {n o p : Nat} (hB : Blk w g 134 cur) (ht : cur.take (n * 2) = xs) (hp : p = o) : ∀ j v, (xs.drop o)[j]? = some v → w.cell? ((⟨g, p, none⟩ : Addr).add j) = some v := fun j v hj => by
  subst hp
  rw [Addr.add_mid, hB.cell]
  rw [← ht, List.getElem?_drop, List.getElem?_take] at hj
  split at hj
  · exact hj
  · cases hj
set_option maxHeartbeats 1000000 in
theorem ins_grow_p (w : World) (n i : Nat) (xs x cur : List Value) (bv g : Nat) (hB : Blk w bv 134 x) (hx : x.length = 2) (h1 : ∀ u ∈ x, u.oneCell' = true) (hn : n + 1 ≤ 8796093022208) (hi : i < n)
    (hg : Blk w g 134 cur) (hcl : cur.length = n * 2) (htk : cur.take (n * 2) = xs) (h1x : ∀ u ∈ xs, u.oneCell' = true) (ys : List Value) (hys : xs.take (i * 2) ++ x ++ xs.drop (i * 2) = ys) :
    Calls Tryz.prog 123 #[.slice (some ⟨g, 0, none⟩) n n, .int .i64 i, .slice (some ⟨bv, 0, none⟩) 1 1] w (Put w 134 2 (.slice (some ⟨g, 0, none⟩) n n) (n + 1) ys) := by
  have Hys := hid hys
  clear hys
  obtain ⟨ti, hti, hz, hs, hby⟩ := infoz_p
  have hxl : xs.length = n * 2 := by rw [← htk, List.length_take, hcl, Nat.min_self]
  have HB := hid hB; have Hx := hid hx; have H1 := hid h1; have HG := hid hg; have Hcl := hid hcl; have Htk := hid htk; have H1x := hid h1x
  have Hti := hid hti; have Hz := hid hz; have Hs := hid hs; have Hby := hid hby; have Hxl := hid hxl
  have HI := hid hi
  clear hB hx h1 hg hcl htk h1x hti hz hs hby hxl
  have hne : ¬ (n = i) := by omega
  have b1 : ¬ ((i : Int) = n) := by omega
  have hin : (i : Int) < n := by omega
  have hin2 : (i : Int) ≤ (n : Int) + 1 := by omega
  have hp : (0 : Int) ≤ (n : Int) + 1 - i := by omega
  have hq : (n : Int) + 1 - i = ((n + 1 - i : Nat) : Int) := by omega
  have HQ := hid hq
  clear hq
  go_enter Tryz.func123, Tryz.ntmps123
  have hal : (xs.take (i * 2)).length = i * 2 := by rw [List.length_take, Hxl.out]; exact Nat.min_eq_left (Nat.mul_le_mul_right _ (Nat.le_of_lt HI.out))
  have Hal := hid hal; clear hal
  have h12 : Hid (i * 2 + 2 + (n - i) * 2 = (n + 1) * 2) := hid (by have := HI.out; omega)
  have WA : Hid (IntKind.i64.wrap ((i : Int) + 1) = (i : Int) + 1) := hid (by rw [IntKind.wrap_i64]; have := HI.out; omega)
  go_wp2_with (first
    | ((with_reducible show wpList _ _ _ (⟨_, .call { callee := .builtin .append, args := _, argTypes := _ }, _, _, _, _⟩ :: _) _ _); refine wpL_appendZ rfl _ _ 165 3 rfl 134 ti _ 2 .i64 .i64 rfl rfl Hti.out Hz.out Hs.out rfl (by decide) g i n (n + 1 - i) rfl (congrArg (Value.int .i64) HQ.out) 134 cur HG.out (xs.take (i * 2)) Hal.out (by rw [← Htk.out, List.take_take, Nat.min_eq_left (Nat.mul_le_mul_right _ (Nat.le_of_lt HI.out))]) (by omega) (by omega) (by have := HI.out; omega) (by unfold maxLen; omega) (by rw [Hby.out]; omega) ?_; intro w1 zs cap' hc1 hc2 hl HB1 HF1 HS1; have Hl1 := hid hl; clear hl; unfold maxLen at hc2; rw [show i + (n + 1 - i) = n + 1 from by have := HI.out; omega]; have Hzl : Hid (i * 2 + zs.length = cap' * 2) := hid (by have := Hl1.out; rw [List.length_append, Hal.out] at this; exact this))
    | ((with_reducible show wpList _ _ _ (⟨_, .call { callee := .builtin .copy, args := _, argTypes := _ }, _, _, _, _⟩ :: _) _ _); refine wpL_copyK rfl _ _ 165 165 rfl 134 2 rfl info_p w.heap.size (i * 2) (n + 1 - i) (cap' - i) ⟨bv, 0, none⟩ 1 1 rfl rfl 134 _ HB1.out x (by rw [Hx.out, show Nat.min 1 (n + 1 - i) = 1 from Nat.min_eq_left (by have := HI.out; omega)]) (HB.out.fr HF1.out id).news (by rw [Hl1.out, Hx.out]; have := HI.out; omega) H1.out ?_; intro w2 HB2 HF2 HS2))
  refine wpD_region (Facts.nil_hold w2.drew) (by kernel_rfl) 9 rfl ?_
  have hold := Facts.nil_hold w2.drew
  (refine wpD_plain 0 (v := ?_) rfl (by kernel_rfl) (by kernel_rfl) (by kernel_rfl) (fun _ _ _ h => h) (by rfl) ?_ (by assumption) ?_; rotate_left; (intro _w; go_simp; try with_reducible rfl); simp only [Act.put, List.setIfInBounds_toArray, List.set_cons_zero, List.set_cons_succ])
  (refine wpD_plain 1 (v := ?_) rfl (by kernel_rfl) (by kernel_rfl) (by kernel_rfl) (fun _ _ _ h => h) (by rfl) ?_ (by assumption) ?_; rotate_left; (intro _w; go_simp; try with_reducible rfl); simp only [Act.put, List.setIfInBounds_toArray, List.set_cons_zero, List.set_cons_succ])
  (refine wpD_plain 2 (v := ?_) rfl (by kernel_rfl) (by kernel_rfl) (by kernel_rfl) (fun _ _ _ h => h) (by rfl) ?_ (by assumption) ?_; rotate_left; (intro _w; go_simp; try with_reducible rfl); simp only [Act.put, List.setIfInBounds_toArray, List.set_cons_zero, List.set_cons_succ])
  (refine wpD_plain 3 (v := (.int .i64 ((i : Int) + 1))) rfl (by kernel_rfl) (by kernel_rfl) (by kernel_rfl) (fun _ _ _ h => h) (by rfl) ?_ (by assumption) ?_; (intro _w; go_simp; exact WA.out); simp only [Act.put, List.setIfInBounds_toArray, List.set_cons_zero, List.set_cons_succ])
  have hb1 : (0 : Int) ≤ (i : Int) + 1 := by omega
  have hb2 : ¬ (cap' = i + 1) := by have := HI.out; omega
  have hb3 : (i : Int) ≤ (n : Int) := by omega
  have htn : ((i : Int) + 1).toNat = i + 1 := by omega
  (refine wpD_plain 4 (v := (.slice (some ⟨w.heap.size, ((i + 1) * 2), none⟩) (n + 1 - (i + 1)) (cap' - (i + 1)))) rfl (by kernel_rfl) (by kernel_rfl) (by kernel_rfl) (fun _ _ _ h => h) (by rfl) ?_ (by assumption) ?_; (intro _w; go_simp; skip); simp only [Act.put, List.setIfInBounds_toArray, List.set_cons_zero, List.set_cons_succ])
  (refine wpD_plain 5 (v := ?_) rfl (by kernel_rfl) (by kernel_rfl) (by kernel_rfl) (fun _ _ _ h => h) (by rfl) ?_ (by assumption) ?_; rotate_left; (intro _w; go_simp; try with_reducible rfl); simp only [Act.put, List.setIfInBounds_toArray, List.set_cons_zero, List.set_cons_succ])
  (refine wpD_plain 6 (v := ?_) rfl (by kernel_rfl) (by kernel_rfl) (by kernel_rfl) (fun _ _ _ h => h) (by rfl) ?_ (by assumption) ?_; rotate_left; (intro _w; go_simp; try with_reducible rfl); simp only [Act.put, List.setIfInBounds_toArray, List.set_cons_zero, List.set_cons_succ])
  (refine wpD_plain 7 (v := ?_) rfl (by kernel_rfl) (by kernel_rfl) (by kernel_rfl) (fun _ _ _ h => h) (by rfl) ?_ (by assumption) ?_; rotate_left; (intro _w; go_simp; try with_reducible rfl); simp only [Act.put, List.setIfInBounds_toArray, List.set_cons_zero, List.set_cons_succ])
  refine wpD_only 8 [] rfl (by kernel_rfl) (by kernel_rfl) (by rfl) (fun K8 hK8 => ?_)
  have hdl : (xs.drop (i * 2)).length = (n - i) * 2 := by rw [List.length_drop, Hxl.out]; have := HI.out; omega
  refine wp_copyK _ _ 165 165 rfl 134 2 rfl info_p w.heap.size ((i + 1) * 2) (n + 1 - (i + 1)) (cap' - (i + 1)) ⟨g, (i * 2), none⟩ (n - i) (n - i) rfl rfl 134 _ HB2.out.drew (xs.drop (i * 2)) (by rw [hdl, show Nat.min (n - i) (n + 1 - (i + 1)) = n - i from Nat.min_eq_left (by omega)])
    (cells_p w2.drew (((HG.out.fr HF1.out id).fr HF2.out (fun e => by have h1 : g = w.heap.size := e; have := HG.out.lt; omega)).drew) Htk.out (by omega))
    (by rw [hdl]; have h1 := (spl_length (xs.take (i * 2) ++ zs) (i * 2) x (by rw [Hl1.out, Hx.out]; have := HI.out; omega)); rw [h1, Hl1.out]; have := HI.out; omega) (fun u hu => H1x.out u (List.mem_of_mem_drop hu)) ?_
  intro w3 HB3 HF3 HS3
  refine hK8 _ _ (Facts.nil_hold _) ?_
  simp only [Act.put, List.setIfInBounds_toArray, List.set_cons_zero, List.set_cons_succ]
  clear hK8 K8
  refine wpD_done (by kernel_rfl) ?_ _
  have hzx : x.length + (xs.drop (i * 2)).length ≤ zs.length := by rw [hdl, Hx.out]; have := Hzl.out; have := HI.out; omega
  have hsp := spl_new (xs.take (i * 2)) zs x (xs.drop (i * 2)) hzx
  have hlen : (xs.take (i * 2)).length + x.length = (i + 1) * 2 := by rw [Hal.out, Hx.out]; omega
  rw [hlen, Hal.out] at hsp
  have HSP := hid hsp; have HDL := hid hdl
  clear hsp hdl hzx hlen hb1 hb2 hb3 htn
  go_wp2
  go_ret
  have hcur : (spl (spl (xs.take (i * 2) ++ zs) (i * 2) x) ((i + 1) * 2) (xs.drop (i * 2))).take ((n + 1) * 2) = ys ∧ (spl (spl (xs.take (i * 2) ++ zs) (i * 2) x) ((i + 1) * 2) (xs.drop (i * 2))).length = cap' * 2 := by
    have h1 := HSP.out
    rw [HDL.out, show (i + 1) * 2 + (n - i) * 2 = (n + 1) * 2 from by have := HI.out; omega] at h1
    try simp only [Nat.mul_one] at h1 ⊢
    exact ⟨h1.1.trans (by have := Hys.out; simpa only [Nat.mul_one] using this), h1.2.trans (by have := Hl1.out; simpa only [Nat.mul_one] using this)⟩
  refine put_mk (own_mk HB3.out hc1 (by unfold maxLen; exact hc2) hcur.2 hcur.1) ?_ (.inr (Nat.le_refl _))
  exact ((HF1.out.no.trans (D' := fun k => k = w.heap.size) HF2.out (fun k e => .inr (by rw [e]; exact Nat.le_refl _))).drew).trans (D' := fun k => k = w.heap.size) HF3.out (fun k e => .inr (by rw [e]; exact Nat.le_refl _))

theorem over_p (w : World) (bv g o la ca lb cb : Nat) (x cur : List Value) (hB : Blk w bv 134 x) (hg : Blk w g 134 cur) (hne : bv ≠ g) (h0 : cur.length ≠ 0) :
    (callFunc 131 #[.slice (some ⟨bv, 0, none⟩) la ca, .slice (some ⟨g, o, none⟩) lb cb]).run Tryz.prog w = .ok (.value (.bool false)) w := by
  rw [run_callFunc_extern Tryz.func131 (by kernel_rfl) (by kernel_rfl) (by kernel_rfl) (e := Extern.SlicesOverlaps.overlaps #[165, 165] #[4]) (by kernel_rfl),
    Lib.run_overlaps_apart w 165 4 134 rfl 2 (by intro w; kernel_rfl) ⟨bv, 0, none⟩ ⟨g, o, none⟩ la ca lb cb hne 134 134 x.length cur.length (by
      have h : w.heap[bv]? = some (.cells x.toArray 134 (0, 0)) := hB
      simp [World.shape?, h]) (by
      have h : w.heap[g]? = some (.cells cur.toArray 134 (0, 0)) := hg
      simp [World.shape?, h]) h0 (hB.frozen 0) (hB.frozen _)]
  rfl
set_option maxHeartbeats 1000000 in
theorem ins_shift_p (w : World) (n i cap : Nat) (xs x cur : List Value) (bv g : Nat) (hB : Blk w bv 134 x) (hx : x.length = 2) (h1 : ∀ u ∈ x, u.oneCell' = true) (hn : n + 1 ≤ 8796093022208) (hi : i < n)
    (hg : Blk w g 134 cur) (hne : bv ≠ g) (hnc : n < cap) (hcm : cap ≤ maxLen) (hcl : cur.length = cap * 2) (htk : cur.take (n * 2) = xs) (h1x : ∀ u ∈ xs, u.oneCell' = true) (ys : List Value) (hys : xs.take (i * 2) ++ x ++ xs.drop (i * 2) = ys) :
    Calls Tryz.prog 123 #[.slice (some ⟨g, 0, none⟩) n cap, .int .i64 i, .slice (some ⟨bv, 0, none⟩) 1 1] w (Put w 134 2 (.slice (some ⟨g, 0, none⟩) n cap) (n + 1) ys) := by
  have Hys := hid hys
  have hxl : xs.length = n * 2 := by rw [← htk, List.length_take, hcl, Nat.min_eq_left (Nat.mul_le_mul_right _ (Nat.le_of_lt hnc))]
  have HOV : Hid (∀ la ca lb cb o, (callFunc 131 #[.slice (some ⟨bv, 0, none⟩) la ca, .slice (some ⟨g, o, none⟩) lb cb]).run Tryz.prog w = .ok (.value (.bool false)) w) := hid (fun la ca lb cb o => over_p w bv g o la ca lb cb x cur hB hg hne (by rw [hcl]; omega))
  have HB := hid hB; have Hx := hid hx; have H1 := hid h1; have HG := hid hg; have Hcl := hid hcl; have Htk := hid htk; have H1x := hid h1x
  have Hxl := hid hxl; have Hne := hid hne
  have HI := hid hi
  have HCM := hid hcm
  unfold maxLen at hcm
  clear hB hx h1 hg hcl htk h1x hxl hys hne
  have WA : Hid (IntKind.i64.wrap ((i : Int) + 1) = (i : Int) + 1) := hid (by rw [IntKind.wrap_i64]; have := HI.out; omega)
  have b2 : ¬ (cap = i) := by omega
  have b3 : ¬ (cap = i + 1) := by omega
  have b1 : ¬ ((i : Int) = n) := by omega
  have b4 : ¬ ((n : Int) + 1 > cap) := by omega
  have b5 : (n : Int) + 1 ≤ cap := by omega
  have b7 : n + 1 ≤ cap := by omega
  have hb1 : (0 : Int) ≤ (i : Int) + 1 := by omega
  have hb3 : (i : Int) ≤ (n : Int) := by omega
  have hb4 : (i : Int) ≤ (n : Int) + 1 := by omega
  have htn : ((i : Int) + 1).toNat = i + 1 := by omega
  go_enter Tryz.func123, Tryz.ntmps123
  go_wp2_with fail
  rw [HOV.out]
  go_wp2_with fail
  refine wpD_region (Facts.nil_hold w.drew) (by kernel_rfl) 9 rfl ?_
  have hold := Facts.nil_hold w.drew
  (refine wpD_plain 0 (v := ?_) rfl (by kernel_rfl) (by kernel_rfl) (by kernel_rfl) (fun _ _ _ h => h) (by rfl) ?_ (by assumption) ?_; rotate_left; (intro _w; go_simp; try with_reducible rfl); simp only [Act.put, List.setIfInBounds_toArray, List.set_cons_zero, List.set_cons_succ])
  (refine wpD_plain 1 (v := ?_) rfl (by kernel_rfl) (by kernel_rfl) (by kernel_rfl) (fun _ _ _ h => h) (by rfl) ?_ (by assumption) ?_; rotate_left; (intro _w; go_simp; try with_reducible rfl); simp only [Act.put, List.setIfInBounds_toArray, List.set_cons_zero, List.set_cons_succ])
  (refine wpD_plain 2 (v := ?_) rfl (by kernel_rfl) (by kernel_rfl) (by kernel_rfl) (fun _ _ _ h => h) (by rfl) ?_ (by assumption) ?_; rotate_left; (intro _w; go_simp; try with_reducible rfl); simp only [Act.put, List.setIfInBounds_toArray, List.set_cons_zero, List.set_cons_succ])
  (refine wpD_plain 3 (v := (.int .i64 ((i : Int) + 1))) rfl (by kernel_rfl) (by kernel_rfl) (by kernel_rfl) (fun _ _ _ h => h) (by rfl) ?_ (by assumption) ?_; (intro _w; go_simp; exact WA.out); simp only [Act.put, List.setIfInBounds_toArray, List.set_cons_zero, List.set_cons_succ])
  (refine wpD_plain 4 (v := (.slice (some ⟨g, ((i + 1) * 2), none⟩) (n + 1 - (i + 1)) (cap - (i + 1)))) rfl (by kernel_rfl) (by kernel_rfl) (by kernel_rfl) (fun _ _ _ h => h) (by rfl) ?_ (by assumption) ?_; (intro _w; go_simp; skip); simp only [Act.put, List.setIfInBounds_toArray, List.set_cons_zero, List.set_cons_succ])
  (refine wpD_plain 5 (v := ?_) rfl (by kernel_rfl) (by kernel_rfl) (by kernel_rfl) (fun _ _ _ h => h) (by rfl) ?_ (by assumption) ?_; rotate_left; (intro _w; go_simp; try with_reducible rfl); simp only [Act.put, List.setIfInBounds_toArray, List.set_cons_zero, List.set_cons_succ])
  (refine wpD_plain 6 (v := ?_) rfl (by kernel_rfl) (by kernel_rfl) (by kernel_rfl) (fun _ _ _ h => h) (by rfl) ?_ (by assumption) ?_; rotate_left; (intro _w; go_simp; try with_reducible rfl); simp only [Act.put, List.setIfInBounds_toArray, List.set_cons_zero, List.set_cons_succ])
  (refine wpD_plain 7 (v := ?_) rfl (by kernel_rfl) (by kernel_rfl) (by kernel_rfl) (fun _ _ _ h => h) (by rfl) ?_ (by assumption) ?_; rotate_left; (intro _w; go_simp; try with_reducible rfl); simp only [Act.put, List.setIfInBounds_toArray, List.set_cons_zero, List.set_cons_succ])
  refine wpD_only 8 [] rfl (by kernel_rfl) (by kernel_rfl) (by rfl) (fun K8 hK8 => ?_)
  have hdl : (xs.drop (i * 2)).length = (n - i) * 2 := by rw [List.length_drop, Hxl.out]; have := HI.out; omega
  refine wp_copyK _ _ 165 165 rfl 134 2 rfl info_p g ((i + 1) * 2) (n + 1 - (i + 1)) (cap - (i + 1)) ⟨g, (i * 2), none⟩ (n + 1 - i) (cap - i) rfl rfl 134 _ HG.out.drew (xs.drop (i * 2)) (by rw [hdl, show Nat.min (n + 1 - i) (n + 1 - (i + 1)) = n - i from (Nat.min_eq_right (by omega)).trans (by omega)])
    (cells_p w.drew HG.out.drew Htk.out (by omega))
    (by rw [hdl, Hcl.out]; have := HI.out; omega) (fun u hu => H1x.out u (List.mem_of_mem_drop hu)) ?_
  intro w3 HB3 HF3 HS3
  refine hK8 _ _ (Facts.nil_hold _) ?_
  simp only [Act.put, List.setIfInBounds_toArray, List.set_cons_zero, List.set_cons_succ]
  clear hK8 K8
  refine wpD_done (by kernel_rfl) ?_ _
  have hsp := spl_shift cur (xs.drop (i * 2)) x (i * 2) ((i + 1) * 2) (by rw [Hx.out]; omega) (by rw [hdl, Hcl.out]; have := HI.out; omega)
  have htt : cur.take (i * 2) = xs.take (i * 2) := by rw [← Htk.out, List.take_take, Nat.min_eq_left (Nat.mul_le_mul_right _ (Nat.le_of_lt HI.out))]
  rw [htt, hdl] at hsp
  have HSP := hid hsp; have HDL := hid hdl
  clear hsp hdl htt
  have HM : Hid (Nat.min 1 (n + 1 - i) = 1) := hid (Nat.min_eq_left (by have := HI.out; omega))
  go_wp2_with ((with_reducible show wpList _ _ _ (⟨_, .call { callee := .builtin .copy, args := _, argTypes := _ }, _, _, _, _⟩ :: _) _ _); refine wpL_copyK rfl _ _ 165 165 rfl 134 2 rfl info_p g (i * 2) (n + 1 - i) (cap - i) ⟨bv, 0, none⟩ 1 1 rfl rfl 134 _ HB3.out x (by rw [Hx.out, HM.out]) ((HB.out.drew.fr HF3.out (fun e => Hne.out e)).news) (by rw [spl_length _ _ _ (by rw [HDL.out, Hcl.out]; have := HI.out; omega), Hcl.out, Hx.out]; have := HI.out; omega) H1.out ?_; intro w4 HB4 HF4 HS4)
  go_ret
  have hcur : (spl (spl cur ((i + 1) * 2) (xs.drop (i * 2))) (i * 2) x).take ((n + 1) * 2) = ys ∧ (spl (spl cur ((i + 1) * 2) (xs.drop (i * 2))) (i * 2) x).length = cap * 2 := by
    have h1 := HSP.out
    rw [show (i + 1) * 2 + (n - i) * 2 = (n + 1) * 2 from by have := HI.out; omega] at h1
    try simp only [Nat.mul_one] at h1 ⊢
    exact ⟨h1.1.trans (by have := Hys.out; simpa only [Nat.mul_one] using this), h1.2.trans (by have := Hcl.out; simpa only [Nat.mul_one] using this)⟩
  refine put_mk (own_mk HB4.out b7 HCM.out hcur.2 hcur.1) ?_ (.inl rfl)
  have ob : ∀ k, k = g → Ob (.slice (some ⟨g, 0, none⟩) n cap) k := fun k e => by subst e; rfl
  exact ((Fr.refl _ w).drew.trans' (HF3.out.mono ob)).trans' (HF4.out.mono ob)

theorem insert_p (w : World) (v : Value) (n i : Nat) (xs x : List Value) (bv : Nat) (hv : w.ownsRow 0 134 2 v n xs) (hi : i ≤ n) (hB : Blk w bv 134 x) (hx : x.length = 2) (h1 : ∀ u ∈ x, u.oneCell' = true) (h1x : ∀ u ∈ xs, u.oneCell' = true)
    (hne : v.ownBlock ≠ some bv) (hn : n + 1 ≤ 8796093022208) :
    Calls Tryz.prog 123 #[v, .int .i64 i, .slice (some ⟨bv, 0, none⟩) 1 1] w (Put w 134 2 v (n + 1) (xs.take (i * 2) ++ x ++ xs.drop (i * 2))) := by
  rcases Nat.lt_or_ge i n with hlt | hge
  · obtain ⟨g, cap, cur, rfl, hg, h2, h3, h4, h5⟩ := own_open hv (by omega)
    rcases Nat.lt_or_ge n cap with hc | hc
    · exact ins_shift_p w n i cap xs x cur bv g hB hx h1 hn hlt hg (fun e => hne (by rw [e]; rfl)) hc h3 h4 h5 h1x _ rfl
    · obtain rfl : cap = n := by omega
      exact ins_grow_p w cap i xs x cur bv g hB hx h1 hn hlt hg h4 h5 h1x _ rfl
  · obtain rfl : i = n := by omega
    have hl := hv.1
    rw [← hl, List.take_length, List.drop_length, List.append_nil]
    exact ins_end_p w v i xs x bv hv hB hx h1 hn
end Go.Proofs.YtflfmkokfbgclaaGreat.TR
