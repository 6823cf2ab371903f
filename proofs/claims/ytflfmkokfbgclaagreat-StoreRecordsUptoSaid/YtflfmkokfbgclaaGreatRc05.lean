/-
  Part 5 of the proof: TrCs, TrCp.
-/
import Derived.Test.YtflfmkokfbgclaaGreatRc04
set_option linter.unusedSimpArgs false
set_option linter.unusedVariables false
namespace Go.Proofs.YtflfmkokfbgclaaGreat.TR
set_option maxRecDepth 100000
open Go.RowKit K

theorem wp_app_s {Q : Exit → Act → World → Prop} {K : Act → World → Prop} {op : Oper} {a : Act} {w : World} (s x : Operand) (ho : op.op = .call { callee := .builtin .append, args := #[s, x], argTypes := #[118, 118] })
    (v : Value) (n : Nat) (xs : List Value) (hv : a.eval s = v) (hown : w.ownsRow 0 9 1 v n xs)
    (sp : Option Addr) (m c : Nat) (news : List Value) (hx : a.eval x = .slice sp m c) (hl : news.length = m * 1) (hsrc : m = 0 ∨ ∃ ad, sp = some ad ∧ ∀ j u, news[j]? = some u → w.cell? (ad.add j) = some u) (h1 : ∀ u ∈ news, u.oneCell' = true)
    (hb : n + m ≤ 8796093022208)
    (h : ∀ a' cap' w', Put w 9 1 v (n + m) (xs ++ news) (.returned (.slice a' (n + m) cap')) w' → K (a.put op.dst (.slice a' (n + m) cap')) w') : op.wp Tryz.prog a w K Q := by
  obtain ⟨i, hi, hz, hs, hby⟩ := infoz_s
  obtain ⟨v', w', hr, h2, h3, h4, a', cap', rfl⟩ := run_append_any (P := Tryz.prog) (w := w) 118 op.type 0 9 i _ 1 16 rfl hi hz hs hby rfl (by decide) v n xs hown sp m c news hl hsrc h1 (by unfold maxLen; omega) (by omega) (Nat.zero_le _)
  unfold Oper.wp execOp
  simp only [ho, resolve, invoke, builtin, Sem.run_bind, Sem.run_pure, Result.andThen_ok, List.map_toArray, List.map_cons, List.map_nil, hv, hx, hr]
  refine h a' cap' w' ⟨_, rfl, h2, ((Fr.refl (Ob v) w).grown h3 fun k hk => .inl hk), fun g hg => ?_⟩
  rcases h4 with h4 | h4
  · exact .inl (by rw [← h4]; exact hg)
  · exact .inr (by rw [h4] at hg; cases hg; exact Nat.le_refl _)

set_option maxHeartbeats 1000000 in
theorem join_s (w : World) (b b' : Nat) (kv cv kv' cv' : Value) (ks ks' : List S) (cs cs' : List Value) (h : NdAt w 160 9 1 b kv cv ks cs) (h' : NdAt w 160 9 1 b' kv' cv' ks' cs')
    (hd : ∀ g, Own b kv cv g → ¬ Own b' kv' cv' g) (hn : ks.length + ks'.length ≤ 8796093022208) :
    Calls Tryz.prog 118 #[.pointer (some ⟨b, 0, none⟩), .pointer (some ⟨b', 0, none⟩)] w fun e w' => e = .returned (.tuple #[]) ∧ NdPost w 160 9 1 b kv cv (ks ++ ks') (cs ++ cs') w' := by
  obtain ⟨a2, c2, rfl, -, -⟩ := own_form h'.rk
  obtain ⟨a3, c3, rfl, -, -⟩ := own_form h'.rc
  have H := hid h; have H' := hid h'; have HD := hid hd; have HN := hid hn
  clear h h' hd hn
  have HL : Hid ((ks ++ ks').length = ks.length + ks'.length) := hid (by simp)
  have E1 : Hid (sv (ks ++ ks') = sv ks ++ sv ks') := hid (by simp [sv])
  have c0 : w.cell? ⟨b, 0, none⟩ = some kv := H.out.blk.cell 0
  have c0' : w.cell? ⟨b', 0, none⟩ = some (.slice a2 ks'.length c2) := H'.out.blk.cell 0
  go_enter Tryz.func118, Tryz.ntmps118
  go_wp2_with fail
  have hold : Facts.hold [(4, fun w' => w'.cell? ⟨b, 0, none⟩ = some kv), (8, fun w' => w'.cell? ⟨b', 0, none⟩ = some (.slice a2 ks'.length c2))] w.drew := Facts.cons_hold c0 (Facts.cons_hold c0' (Facts.nil_hold _))
  refine wpD_region hold (by kernel_rfl) 13 rfl ?_
  (refine wpD_plain 0 (v := ?_) rfl (by kernel_rfl) (by kernel_rfl) (by kernel_rfl) (fun _ _ _ h => h) (by rfl) ?_ (by assumption) ?_; rotate_left; (intro _w; go_simp; try with_reducible rfl); simp only [Act.put, List.setIfInBounds_toArray, List.set_cons_zero, List.set_cons_succ])
  (refine wpD_plain 1 (v := ?_) rfl (by kernel_rfl) (by kernel_rfl) (by kernel_rfl) (fun _ _ _ h => h) (by rfl) ?_ (by assumption) ?_; rotate_left; (intro _w; go_simp; try with_reducible rfl); simp only [Act.put, List.setIfInBounds_toArray, List.set_cons_zero, List.set_cons_succ])
  (refine wpD_plain 2 (v := ?_) rfl (by kernel_rfl) (by kernel_rfl) (by kernel_rfl) (fun _ _ _ h => h) (by rfl) ?_ (by assumption) ?_; rotate_left; (intro _w; go_simp; try with_reducible rfl); simp only [Act.put, List.setIfInBounds_toArray, List.set_cons_zero, List.set_cons_succ])
  (refine wpD_plain 3 (v := ?_) rfl (by kernel_rfl) (by kernel_rfl) (by kernel_rfl) (fun _ _ _ h => h) (by rfl) ?_ (by assumption) ?_; rotate_left; (intro _w; go_simp; try with_reducible rfl); simp only [Act.put, List.setIfInBounds_toArray, List.set_cons_zero, List.set_cons_succ])
  (refine wpD_take 4 _ rfl (by kernel_rfl) (by kernel_rfl) (by kernel_rfl) (fun _ _ _ h => h) List.mem_cons_self (by rfl) (v := ?_) ?_ (by assumption) ?_; rotate_left; (intro _w _hw; go_simp; try with_reducible rfl); simp only [Act.put, List.setIfInBounds_toArray, List.set_cons_zero, List.set_cons_succ])
  (refine wpD_plain 5 (v := ?_) rfl (by kernel_rfl) (by kernel_rfl) (by kernel_rfl) (fun _ _ _ h => h) (by rfl) ?_ (by assumption) ?_; rotate_left; (intro _w; go_simp; try with_reducible rfl); simp only [Act.put, List.setIfInBounds_toArray, List.set_cons_zero, List.set_cons_succ])
  (refine wpD_plain 6 (v := ?_) rfl (by kernel_rfl) (by kernel_rfl) (by kernel_rfl) (fun _ _ _ h => h) (by rfl) ?_ (by assumption) ?_; rotate_left; (intro _w; go_simp; try with_reducible rfl); simp only [Act.put, List.setIfInBounds_toArray, List.set_cons_zero, List.set_cons_succ])
  (refine wpD_plain 7 (v := ?_) rfl (by kernel_rfl) (by kernel_rfl) (by kernel_rfl) (fun _ _ _ h => h) (by rfl) ?_ (by assumption) ?_; rotate_left; (intro _w; go_simp; try with_reducible rfl); simp only [Act.put, List.setIfInBounds_toArray, List.set_cons_zero, List.set_cons_succ])
  (refine wpD_take 8 _ rfl (by kernel_rfl) (by kernel_rfl) (by kernel_rfl) (fun _ _ _ h => h) (List.mem_cons_of_mem _ List.mem_cons_self) (by rfl) (v := ?_) ?_ (by assumption) ?_; rotate_left; (intro _w _hw; go_simp; try with_reducible rfl); simp only [Act.put, List.setIfInBounds_toArray, List.set_cons_zero, List.set_cons_succ])
  clear hold
  refine wpD_only 9 [] rfl (by kernel_rfl) (by kernel_rfl) (by rfl) (fun K9 hK9 => ?_)
  refine wp_app_s _ _ rfl kv ks.length (sv ks) rfl H.out.rk a2 ks'.length c2 (sv ks') rfl (by simp) (own_src H'.out.rk) (sv_one _) HN.out ?_
  rintro a4 c4 w1 ⟨kvn, hkvn, o1, f1, g1⟩
  cases hkvn
  have F1 : Hid (Fr (Ob kv) w w1) := hid ((Fr.refl _ w).drew.trans' f1)
  have G1 : Hid (∀ g, (Value.slice a4 (ks.length + ks'.length) c4).ownBlock = some g → kv.ownBlock = some g ∨ w.heap.size ≤ g) := hid g1
  have O1 : Hid (w1.ownsRow 0 9 1 (.slice a4 (ks.length + ks'.length) c4) (ks ++ ks').length (sv (ks ++ ks'))) := hid (by rw [HL.out, E1.out]; exact o1)
  clear o1 f1 g1
  refine hK9 _ _ (Facts.nil_hold _) ?_
  simp only [Act.put, List.setIfInBounds_toArray, List.set_cons_zero, List.set_cons_succ]
  clear hK9 K9
  have HB1 : Hid (Blk w1 b 160 [kv, cv]) := hid (H.out.blk.fr F1.out H.out.n1)
  have hold := Facts.nil_hold w1
  (refine wpD_plain 10 (v := ?_) rfl (by kernel_rfl) (by kernel_rfl) (by kernel_rfl) (fun _ _ _ h => h) (by rfl) ?_ (by assumption) ?_; rotate_left; (intro _w; go_simp; try with_reducible rfl); simp only [Act.put, List.setIfInBounds_toArray, List.set_cons_zero, List.set_cons_succ])
  (refine wpD_plain 11 (v := ?_) rfl (by kernel_rfl) (by kernel_rfl) (by kernel_rfl) (fun _ _ _ h => h) (by rfl) ?_ (by assumption) ?_; rotate_left; (intro _w; go_simp; try with_reducible rfl); simp only [Act.put, List.setIfInBounds_toArray, List.set_cons_zero, List.set_cons_succ])
  clear hold
  refine wpD_only 12 [] rfl (by kernel_rfl) (by kernel_rfl) (by rfl) (fun K12 hK12 => ?_)
  refine wp_storeV _ _ _ rfl b 0 (.slice a4 (ks.length + ks'.length) c4) [.slice a4 (ks.length + ks'.length) c4] rfl rfl rfl _ _ HB1.out (by simp) info_nd_s.1 (by intro u hu; simp at hu; subst hu; rfl) ?_
  intro w2 HB2 F2 HS2
  refine hK12 _ _ (Facts.nil_hold _) ?_
  simp only [Act.put, List.setIfInBounds_toArray, List.set_cons_zero, List.set_cons_succ]
  clear hK12 K12
  refine wpD_done (by kernel_rfl) ?_ _
  have c1 : w2.cell? ⟨b, 1, none⟩ = some cv := HB2.out.cell 1
  have HA2 : Hid (NdAt w2 160 9 1 b' (.slice a2 ks'.length c2) (.slice a3 ks'.length c3) ks' cs') := hid ((H'.out.fr F1.out (fun g hg e => HD.out g (.inr (.inl e)) hg)).fr F2.out (fun g hg e => HD.out g (.inl e) hg))
  have c1' : w2.cell? ⟨b', 1, none⟩ = some (.slice a3 ks'.length c3) := HA2.out.blk.cell 1
  have R2 : Hid (w2.ownsRow 0 9 1 cv ks.length cs) := hid (own_fr (own_fr H.out.rc F1.out (fun g hg e => H.out.n3 g e hg)) F2.out (fun g hg (e : g = b) => H.out.n2 (by rw [hg, e])))
  go_wp2_with fail
  have hold : Facts.hold [(4, fun w' => w'.cell? ⟨b, 1, none⟩ = some cv), (8, fun w' => w'.cell? ⟨b', 1, none⟩ = some (.slice a3 ks'.length c3))] w2.drew := Facts.cons_hold c1 (Facts.cons_hold c1' (Facts.nil_hold _))
  refine wpD_region hold (by kernel_rfl) 13 rfl ?_
  (refine wpD_plain 0 (v := ?_) rfl (by kernel_rfl) (by kernel_rfl) (by kernel_rfl) (fun _ _ _ h => h) (by rfl) ?_ (by assumption) ?_; rotate_left; (intro _w; go_simp; try with_reducible rfl); simp only [Act.put, List.setIfInBounds_toArray, List.set_cons_zero, List.set_cons_succ])
  (refine wpD_plain 1 (v := ?_) rfl (by kernel_rfl) (by kernel_rfl) (by kernel_rfl) (fun _ _ _ h => h) (by rfl) ?_ (by assumption) ?_; rotate_left; (intro _w; go_simp; try with_reducible rfl); simp only [Act.put, List.setIfInBounds_toArray, List.set_cons_zero, List.set_cons_succ])
  (refine wpD_plain 2 (v := ?_) rfl (by kernel_rfl) (by kernel_rfl) (by kernel_rfl) (fun _ _ _ h => h) (by rfl) ?_ (by assumption) ?_; rotate_left; (intro _w; go_simp; try with_reducible rfl); simp only [Act.put, List.setIfInBounds_toArray, List.set_cons_zero, List.set_cons_succ])
  (refine wpD_plain 3 (v := ?_) rfl (by kernel_rfl) (by kernel_rfl) (by kernel_rfl) (fun _ _ _ h => h) (by rfl) ?_ (by assumption) ?_; rotate_left; (intro _w; go_simp; try with_reducible rfl); simp only [Act.put, List.setIfInBounds_toArray, List.set_cons_zero, List.set_cons_succ])
  (refine wpD_take 4 _ rfl (by kernel_rfl) (by kernel_rfl) (by kernel_rfl) (fun _ _ _ h => h) List.mem_cons_self (by rfl) (v := ?_) ?_ (by assumption) ?_; rotate_left; (intro _w _hw; go_simp; try with_reducible rfl); simp only [Act.put, List.setIfInBounds_toArray, List.set_cons_zero, List.set_cons_succ])
  (refine wpD_plain 5 (v := ?_) rfl (by kernel_rfl) (by kernel_rfl) (by kernel_rfl) (fun _ _ _ h => h) (by rfl) ?_ (by assumption) ?_; rotate_left; (intro _w; go_simp; try with_reducible rfl); simp only [Act.put, List.setIfInBounds_toArray, List.set_cons_zero, List.set_cons_succ])
  (refine wpD_plain 6 (v := ?_) rfl (by kernel_rfl) (by kernel_rfl) (by kernel_rfl) (fun _ _ _ h => h) (by rfl) ?_ (by assumption) ?_; rotate_left; (intro _w; go_simp; try with_reducible rfl); simp only [Act.put, List.setIfInBounds_toArray, List.set_cons_zero, List.set_cons_succ])
  (refine wpD_plain 7 (v := ?_) rfl (by kernel_rfl) (by kernel_rfl) (by kernel_rfl) (fun _ _ _ h => h) (by rfl) ?_ (by assumption) ?_; rotate_left; (intro _w; go_simp; try with_reducible rfl); simp only [Act.put, List.setIfInBounds_toArray, List.set_cons_zero, List.set_cons_succ])
  (refine wpD_take 8 _ rfl (by kernel_rfl) (by kernel_rfl) (by kernel_rfl) (fun _ _ _ h => h) (List.mem_cons_of_mem _ List.mem_cons_self) (by rfl) (v := ?_) ?_ (by assumption) ?_; rotate_left; (intro _w _hw; go_simp; try with_reducible rfl); simp only [Act.put, List.setIfInBounds_toArray, List.set_cons_zero, List.set_cons_succ])
  clear hold
  refine wpD_only 9 [] rfl (by kernel_rfl) (by kernel_rfl) (by rfl) (fun K9 hK9 => ?_)
  refine wp_app_s _ _ rfl cv ks.length cs rfl R2.out a3 ks'.length c3 cs' rfl HA2.out.rc.1 (own_src HA2.out.rc) H'.out.one HN.out ?_
  rintro a5 c5 w3 ⟨cvn, hcvn, o3, f3, g3⟩
  cases hcvn
  have F3 : Hid (Fr (Ob cv) w2 w3) := hid ((Fr.refl _ w2).drew.trans' f3)
  have G3 : Hid (∀ g, (Value.slice a5 (ks.length + ks'.length) c5).ownBlock = some g → cv.ownBlock = some g ∨ w2.heap.size ≤ g) := hid g3
  have O3 : Hid (w3.ownsRow 0 9 1 (.slice a5 (ks.length + ks'.length) c5) (ks ++ ks').length (cs ++ cs')) := hid (by rw [HL.out]; exact o3)
  clear o3 f3 g3
  refine hK9 _ _ (Facts.nil_hold _) ?_
  simp only [Act.put, List.setIfInBounds_toArray, List.set_cons_zero, List.set_cons_succ]
  clear hK9 K9
  have HB3 : Hid (Blk w3 b 160 [.slice a4 (ks.length + ks'.length) c4, cv]) := hid (Blk.fr (by have := HB2.out; simpa [spl] using this) F3.out H.out.n2)
  have hold := Facts.nil_hold w3
  (refine wpD_plain 10 (v := ?_) rfl (by kernel_rfl) (by kernel_rfl) (by kernel_rfl) (fun _ _ _ h => h) (by rfl) ?_ (by assumption) ?_; rotate_left; (intro _w; go_simp; try with_reducible rfl); simp only [Act.put, List.setIfInBounds_toArray, List.set_cons_zero, List.set_cons_succ])
  (refine wpD_plain 11 (v := ?_) rfl (by kernel_rfl) (by kernel_rfl) (by kernel_rfl) (fun _ _ _ h => h) (by rfl) ?_ (by assumption) ?_; rotate_left; (intro _w; go_simp; try with_reducible rfl); simp only [Act.put, List.setIfInBounds_toArray, List.set_cons_zero, List.set_cons_succ])
  clear hold
  refine wpD_only 12 [] rfl (by kernel_rfl) (by kernel_rfl) (by rfl) (fun K12 hK12 => ?_)
  refine wp_storeV _ _ _ rfl b 1 (.slice a5 (ks.length + ks'.length) c5) [.slice a5 (ks.length + ks'.length) c5] rfl rfl rfl _ _ HB3.out (by simp) info_nd_s.2 (by intro u hu; simp at hu; subst hu; rfl) ?_
  intro w4 HB4 F4 HS4
  refine hK12 _ _ (Facts.nil_hold _) ?_
  simp only [Act.put, List.setIfInBounds_toArray, List.set_cons_zero, List.set_cons_succ]
  clear hK12 K12
  refine wpD_done (by kernel_rfl) ?_ _
  have HON : Hid (∀ u ∈ cs ++ cs', u.oneCell' = true) := hid (fun u hu => (List.mem_append.1 hu).elim (H.out.one u) (H'.out.one u))
  go_wp2
  refine bodyPost_end (v := .tuple #[]) (by simp [results, Tryz.results118]) rfl ⟨rfl, ?_⟩
  exact nd_turn H.out F1.out O1.out G1.out F2.out F3.out O3.out G3.out F4.out (by have := HB4.out; simpa [spl] using this) HON.out

theorem ent_cs (vs : Array Value) (w : World) : (callFunc 129 vs).run Tryz.prog w = .ok (.enter 129 vs) w := by kernel_rfl
theorem build_s (x y : Value) (hx : x.oneCell' = true) (hy : y.oneCell' = true) (hxs : ∃ a n c, x = .slice a n c) (hys : ∃ a n c, y = .slice a n c) (w : World) : (Instr.build 160 #[(0, x), (1, y)]).run Tryz.prog w = .ok (.agg #[x, y]) w := by
  obtain ⟨a, n, c, rfl⟩ := hxs
  obtain ⟨a', n', c', rfl⟩ := hys
  kernel_rfl
set_option maxHeartbeats 1000000 in
theorem cut_nd_s (w : World) (b i : Nat) (kv cv : Value) (ks : List S) (cs : List Value) (h : NdAt w 160 9 1 b kv cv ks cs) (hi : i < ks.length) (hn : ks.length ≤ 8796093022208) :
    Calls Tryz.prog 121 #[.pointer (some ⟨b, 0, none⟩), .int .i64 i] w (CutNd w 160 9 1 b kv cv (ks.take i) (ks.drop i) (cs.take (i * 1)) (cs.drop (i * 1))) := by
  obtain ⟨gk, ck, curk, rfl, hBk, hk1, hk2, hk3, hk4⟩ := own_open h.rk (by omega)
  obtain ⟨gc, cc, curc, rfl, hBc, hc1, hc2, hc3, hc4⟩ := own_open h.rc (by omega)
  unfold maxLen at hk2 hc2
  have H := hid h; have HN := hid hn; have HI := hid hi
  have SK : Hid (∀ j u, (sv (ks.drop i))[j]? = some u → w.cell? ((⟨gk, i, none⟩ : Addr).add j) = some u) := hid (by
    have := cells_s w hBk hk4 (o := i) rfl
    intro j u hj
    exact this j u (by simpa [sv, List.map_drop] using hj))
  have SC : Hid (∀ j u, (cs.drop (i * 1))[j]? = some u → w.cell? ((⟨gc, i, none⟩ : Addr).add j) = some u) := hid (cells_s w hBc hc4 (by omega))
  have LD : Hid ((ks.drop i).length = ks.length - i) := hid (by simp)
  have LC : Hid ((cs.drop (i * 1)).length = (ks.length - i) * 1) := hid (by rw [List.length_drop, h.rc.1]; omega)
  have c0 : w.cell? ⟨b, 0, none⟩ = some (.slice (some ⟨gk, 0, none⟩) ks.length ck) := h.blk.cell 0
  have c1 : w.cell? ⟨b, 1, none⟩ = some (.slice (some ⟨gc, 0, none⟩) ks.length cc) := h.blk.cell 1
  clear h hn hi hBk hBc hk3 hk4 hc3 hc4
  have b1 : (i : Int) ≤ (ks.length : Int) := by have := HI.out; omega
  have b2 : ¬ (ck = i) := by have := HI.out; omega
  have b3 : ¬ (cc = i) := by have := HI.out; omega
  have b4 : i ≤ ks.length := by have := HI.out; omega
  generalize hq : ks.length = n at *
  have HQ := hid hq
  clear hq
  go_enter Tryz.func121, Tryz.ntmps121
  go_wp2_with fail
  have hold : Facts.hold [(3, fun w' => w'.cell? ⟨b, 0, none⟩ = some (.slice (some ⟨gk, 0, none⟩) n ck)), (10, fun w' => w'.cell? ⟨b, 1, none⟩ = some (.slice (some ⟨gc, 0, none⟩) n cc))] w.drew := Facts.cons_hold c0 (Facts.cons_hold c1 (Facts.nil_hold _))
  refine wpD_region hold (by kernel_rfl) 17 rfl ?_
  (refine wpD_plain 0 (v := ?_) rfl (by kernel_rfl) (by kernel_rfl) (by kernel_rfl) (fun _ _ _ h => h) (by rfl) ?_ (by assumption) ?_; rotate_left; (intro _w; go_simp; try with_reducible rfl); simp only [Act.put, List.setIfInBounds_toArray, List.set_cons_zero, List.set_cons_succ])
  (refine wpD_plain 1 (v := ?_) rfl (by kernel_rfl) (by kernel_rfl) (by kernel_rfl) (fun _ _ _ h => h) (by rfl) ?_ (by assumption) ?_; rotate_left; (intro _w; go_simp; try with_reducible rfl); simp only [Act.put, List.setIfInBounds_toArray, List.set_cons_zero, List.set_cons_succ])
  (refine wpD_plain 2 (v := ?_) rfl (by kernel_rfl) (by kernel_rfl) (by kernel_rfl) (fun _ _ _ h => h) (by rfl) ?_ (by assumption) ?_; rotate_left; (intro _w; go_simp; try with_reducible rfl); simp only [Act.put, List.setIfInBounds_toArray, List.set_cons_zero, List.set_cons_succ])
  (refine wpD_take 3 _ rfl (by kernel_rfl) (by kernel_rfl) (by kernel_rfl) (fun _ _ _ h => h) List.mem_cons_self (by rfl) (v := ?_) ?_ (by assumption) ?_; rotate_left; (intro _w _hw; go_simp; try with_reducible rfl); simp only [Act.put, List.setIfInBounds_toArray, List.set_cons_zero, List.set_cons_succ])
  (refine wpD_plain 4 (v := ?_) rfl (by kernel_rfl) (by kernel_rfl) (by kernel_rfl) (fun _ _ _ h => h) (by rfl) ?_ (by assumption) ?_; rotate_left; (intro _w; go_simp; try with_reducible rfl); simp only [Act.put, List.setIfInBounds_toArray, List.set_cons_zero, List.set_cons_succ])
  (refine wpD_plain 5 (v := (.slice (some ⟨gk, i, none⟩) (n - i) (ck - i))) rfl (by kernel_rfl) (by kernel_rfl) (by kernel_rfl) (fun _ _ _ h => h) (by rfl) ?_ (by assumption) ?_; (intro _w; go_simp; skip); simp only [Act.put, List.setIfInBounds_toArray, List.set_cons_zero, List.set_cons_succ])
  (refine wpD_plain 7 (v := ?_) rfl (by kernel_rfl) (by kernel_rfl) (by kernel_rfl) (fun _ _ _ h => h) (by rfl) ?_ (by assumption) ?_; rotate_left; (intro _w; go_simp; try with_reducible rfl); simp only [Act.put, List.setIfInBounds_toArray, List.set_cons_zero, List.set_cons_succ])
  (refine wpD_plain 8 (v := ?_) rfl (by kernel_rfl) (by kernel_rfl) (by kernel_rfl) (fun _ _ _ h => h) (by rfl) ?_ (by assumption) ?_; rotate_left; (intro _w; go_simp; try with_reducible rfl); simp only [Act.put, List.setIfInBounds_toArray, List.set_cons_zero, List.set_cons_succ])
  (refine wpD_plain 9 (v := ?_) rfl (by kernel_rfl) (by kernel_rfl) (by kernel_rfl) (fun _ _ _ h => h) (by rfl) ?_ (by assumption) ?_; rotate_left; (intro _w; go_simp; try with_reducible rfl); simp only [Act.put, List.setIfInBounds_toArray, List.set_cons_zero, List.set_cons_succ])
  (refine wpD_take 10 _ rfl (by kernel_rfl) (by kernel_rfl) (by kernel_rfl) (fun _ _ _ h => h) (List.mem_cons_of_mem _ List.mem_cons_self) (by rfl) (v := ?_) ?_ (by assumption) ?_; rotate_left; (intro _w _hw; go_simp; try with_reducible rfl); simp only [Act.put, List.setIfInBounds_toArray, List.set_cons_zero, List.set_cons_succ])
  (refine wpD_plain 11 (v := ?_) rfl (by kernel_rfl) (by kernel_rfl) (by kernel_rfl) (fun _ _ _ h => h) (by rfl) ?_ (by assumption) ?_; rotate_left; (intro _w; go_simp; try with_reducible rfl); simp only [Act.put, List.setIfInBounds_toArray, List.set_cons_zero, List.set_cons_succ])
  (refine wpD_plain 12 (v := (.slice (some ⟨gc, i, none⟩) (n - i) (cc - i))) rfl (by kernel_rfl) (by kernel_rfl) (by kernel_rfl) (fun _ _ _ h => h) (by rfl) ?_ (by assumption) ?_; (intro _w; go_simp; skip); simp only [Act.put, List.setIfInBounds_toArray, List.set_cons_zero, List.set_cons_succ])
  clear hold
  have hm : n - i ≤ 8796093022208 := by have := HN.out; omega
  have hs0 : (sv (ks.drop i)).length = (n - i) * 1 := by rw [sv_length, LD.out]; omega
  have ho : ∀ u ∈ cs.drop (i * 1), u.oneCell' = true := fun u hu => H.out.one u (List.mem_of_mem_drop hu)
  refine wpD_only 6 [(3, fun w' => w'.cell? ⟨b, 0, none⟩ = some (.slice (some ⟨gk, 0, none⟩) n ck)), (10, fun w' => w'.cell? ⟨b, 1, none⟩ = some (.slice (some ⟨gc, 0, none⟩) n cc))] rfl (by kernel_rfl) (by kernel_rfl) (by rfl) (fun K hK => ?_)
  refine wp_call (.func 129) _ _ rfl 129 [] rfl ent_cs [.slice (some ⟨gk, i, none⟩) (n - i) (ck - i)] (by rfl) ?_
  refine (clone_s w.drew (some ⟨gk, i, none⟩) (n - i) (ck - i) (sv (ks.drop i)) hs0 (.inr ⟨_, rfl, SK.out⟩) (sv_one _) hm).mono ?_
  rintro e w1 hp
  obtain ⟨k1, d1, rfl, o1, f1, g1⟩ := put_nil hp
  have hf1 : Fr No w w1 := (Fr.refl No w).drew.trans' f1
  refine ⟨_, rfl, hK _ _ (Facts.cons_hold (hf1.cell c0 id) (Facts.cons_hold (hf1.cell c1 id) (Facts.nil_hold _))) ?_⟩
  clear hp hK K
  simp only [Act.put, List.setIfInBounds_toArray, List.set_cons_zero, List.set_cons_succ]
  refine wpD_only 13 [(3, fun w' => w'.cell? ⟨b, 0, none⟩ = some (.slice (some ⟨gk, 0, none⟩) n ck)), (10, fun w' => w'.cell? ⟨b, 1, none⟩ = some (.slice (some ⟨gc, 0, none⟩) n cc))] rfl (by kernel_rfl) (by kernel_rfl) (by rfl) (fun K2 hK2 => ?_)
  refine wp_call (.func 129) _ _ rfl 129 [] rfl ent_cs [.slice (some ⟨gc, i, none⟩) (n - i) (cc - i)] (by rfl) ?_
  refine (clone_s w1 (some ⟨gc, i, none⟩) (n - i) (cc - i) (cs.drop (i * 1)) LC.out (.inr ⟨_, rfl, fun j u hj => hf1.cell (SC.out j u hj) id⟩) ho hm).mono ?_
  rintro e w2 hp
  obtain ⟨k2, d2, rfl, o2, f2, g2⟩ := put_nil hp
  have hold0 : Facts.hold [(3, fun w' => w'.cell? ⟨b, 0, none⟩ = some (.slice (some ⟨gk, 0, none⟩) n ck)), (10, fun w' => w'.cell? ⟨b, 1, none⟩ = some (.slice (some ⟨gc, 0, none⟩) n cc))] w2 := Facts.cons_hold ((hf1.trans' f2).cell c0 id) (Facts.cons_hold ((hf1.trans' f2).cell c1 id) (Facts.nil_hold _))
  refine ⟨_, rfl, hK2 _ _ hold0 ?_⟩
  clear hp hK2 K2
  simp only [Act.put, List.setIfInBounds_toArray, List.set_cons_zero, List.set_cons_succ]
  have O1 := hid (own_fr o1 f2 (fun _ _ e => e)); have O2 := hid o2; have F2 := hid (hf1.trans' f2)
  have G1 : Hid (∀ g, (Value.slice k1 (n - i) d1).ownBlock = some g → w.heap.size ≤ g ∧ (Value.slice k2 (n - i) d2).ownBlock ≠ some g) := hid (fun g hg => ⟨g1 g hg, fun e => by have := g2 g e; have := own_lt o1 g hg; omega⟩)
  have G2 : Hid (∀ g, (Value.slice k2 (n - i) d2).ownBlock = some g → w.heap.size ≤ g) := hid (fun g hg => Nat.le_trans hf1.size (g2 g hg))
  clear o1 o2 f1 f2 g1 g2 hf1 hs0 ho
  have hb := build_s (.slice k1 (n - i) d1) (.slice k2 (n - i) d2) rfl rfl ⟨_, _, _, rfl⟩ ⟨_, _, _, rfl⟩
  (refine wpD_plain 14 (v := (.agg #[.slice k1 (n - i) d1, .slice k2 (n - i) d2])) rfl (by kernel_rfl) (by kernel_rfl) (by kernel_rfl) (fun _ _ _ h => h) (by rfl) ?_ (by assumption) ?_; (intro _w; go_simp; skip); simp only [Act.put, List.setIfInBounds_toArray, List.set_cons_zero, List.set_cons_succ])
  refine wpD_only 15 [(3, fun w' => w'.cell? ⟨b, 0, none⟩ = some (.slice (some ⟨gk, 0, none⟩) n ck)), (10, fun w' => w'.cell? ⟨b, 1, none⟩ = some (.slice (some ⟨gc, 0, none⟩) n cc))] rfl (by kernel_rfl) (by kernel_rfl) (by rfl) (fun K3 hK3 => ?_)
  refine wp_box _ _ rfl _ rfl [.slice k1 (n - i) d1, .slice k2 (n - i) d2] rfl ?_
  intro w3 HB3 F3 HS3
  have hold : Facts.hold [(3, fun w' => w'.cell? ⟨b, 0, none⟩ = some (.slice (some ⟨gk, 0, none⟩) n ck)), (10, fun w' => w'.cell? ⟨b, 1, none⟩ = some (.slice (some ⟨gc, 0, none⟩) n cc))] w3 := Facts.cons_hold ((F2.out.trans' F3.out).cell c0 id) (Facts.cons_hold ((F2.out.trans' F3.out).cell c1 id) (Facts.nil_hold _))
  refine hK3 _ _ hold ?_
  simp only [Act.put, List.setIfInBounds_toArray, List.set_cons_zero, List.set_cons_succ]
  clear hK3 K3
  (refine wpD_plain 16 (v := ?_) rfl (by kernel_rfl) (by kernel_rfl) (by kernel_rfl) (fun _ _ _ h => h) (by rfl) ?_ (by assumption) ?_; rotate_left; (intro _w; go_simp; try with_reducible rfl); simp only [Act.put, List.setIfInBounds_toArray, List.set_cons_zero, List.set_cons_succ])
  refine wpD_done (by kernel_rfl) ?_ _
  clear hold
  have HN3 : Hid (NdAt w3 160 9 1 w2.heap.size (.slice k1 (n - i) d1) (.slice k2 (n - i) d2) (ks.drop i) (cs.drop (i * 1))) := hid ⟨HB3.out, by rw [LD.out]; exact own_fr O1.out F3.out (fun _ _ e => e), by rw [LD.out]; exact own_fr O2.out F3.out (fun _ _ e => e), fun u hu => H.out.one u (List.mem_of_mem_drop hu), fun e => by have := own_lt O1.out _ e; omega, fun e => by have := own_lt O2.out _ e; omega, fun g hg => (G1.out g hg).2⟩
  have HF : Hid (Fr No w w3) := hid (F2.out.trans' F3.out)
  have HG : Hid (∀ g, Own w2.heap.size (.slice k1 (n - i) d1) (.slice k2 (n - i) d2) g → w.heap.size ≤ g) := hid (by
    rintro g (hg | hg | hg)
    · rw [hg]; exact F2.out.size
    · exact (G1.out g hg).1
    · exact G2.out g hg)
  clear hb
  have HL3 : Hid (NdAt w3 160 9 1 b (.slice (some ⟨gk, 0, none⟩) n ck) (.slice (some ⟨gc, 0, none⟩) n cc) ks cs) := hid (H.out.fr HF.out (fun _ _ e => e))
  go_wp2_with fail
  refine (size_s w3 b _ _ ks cs HL3.out).mono ?_
  rintro e w4 ⟨rfl, rfl⟩
  rw [HQ.out]
  go_wp2_with fail
  have hr := remove_s w3 b i n _ _ ks cs HL3.out b4 (by rw [HQ.out]; exact Nat.le_refl _) (by rw [HQ.out]; exact HN.out)
  rw [show ks.drop n = [] from by rw [← HQ.out]; exact List.drop_length, show cs.drop (n * 1) = [] from by rw [← HQ.out, ← H.out.rc.1]; exact List.drop_length, List.append_nil, List.append_nil] at hr
  refine hr.mono ?_
  rintro e w5 ⟨rfl, kv1, cv1, hn5, hf5, hg5⟩
  have HN5 := hid hn5; have HF5 := hid hf5; have HG5 := hid hg5
  clear hn5 hf5 hg5 hr
  go_wp2
  go_ret
  have hdj : ∀ g, Own w2.heap.size (.slice k1 (n - i) d1) (.slice k2 (n - i) d2) g → ¬ Own b (.slice (some ⟨gk, 0, none⟩) n ck) (.slice (some ⟨gc, 0, none⟩) n cc) g := fun g h1 h2 => by
    have := HG.out g h1; have := H.out.lt g h2; omega
  have P : CutNd w 160 9 1 b (.slice (some ⟨gk, 0, none⟩) n ck) (.slice (some ⟨gc, 0, none⟩) n cc) (ks.take i) (ks.drop i) (cs.take (i * 1)) (cs.drop (i * 1)) (.returned (.pointer (some ⟨w2.heap.size, 0, none⟩))) w5 :=
    ⟨_, _, _, _, _, rfl, HN3.out.fr HF5.out hdj, HN5.out, HF.out.no.trans' HF5.out, HG.out, fun g hg => (HG5.out g hg).imp id (fun e => Nat.le_trans HF.out.size e), fun g hg hr => (HG5.out g hg).elim (fun e => hdj g hr e) (fun e => by have := HN3.out.lt g hr; omega)⟩
  first | exact P | (simp only [Nat.mul_one] at P ⊢; exact P)
end Go.Proofs.YtflfmkokfbgclaaGreat.TR

namespace Go.Proofs.YtflfmkokfbgclaaGreat.TR
set_option maxRecDepth 100000
open Go.RowKit K

theorem wp_app_p {Q : Exit → Act → World → Prop} {K : Act → World → Prop} {op : Oper} {a : Act} {w : World} (s x : Operand) (ho : op.op = .call { callee := .builtin .append, args := #[s, x], argTypes := #[165, 165] })
    (v : Value) (n : Nat) (xs : List Value) (hv : a.eval s = v) (hown : w.ownsRow 0 134 2 v n xs)
    (sp : Option Addr) (m c : Nat) (news : List Value) (hx : a.eval x = .slice sp m c) (hl : news.length = m * 2) (hsrc : m = 0 ∨ ∃ ad, sp = some ad ∧ ∀ j u, news[j]? = some u → w.cell? (ad.add j) = some u) (h1 : ∀ u ∈ news, u.oneCell' = true)
    (hb : n + m ≤ 8796093022208)
    (h : ∀ a' cap' w', Put w 134 2 v (n + m) (xs ++ news) (.returned (.slice a' (n + m) cap')) w' → K (a.put op.dst (.slice a' (n + m) cap')) w') : op.wp Tryz.prog a w K Q := by
  obtain ⟨i, hi, hz, hs, hby⟩ := infoz_p
  obtain ⟨v', w', hr, h2, h3, h4, a', cap', rfl⟩ := run_append_any (P := Tryz.prog) (w := w) 165 op.type 0 134 i _ 2 16 rfl hi hz hs hby rfl (by decide) v n xs hown sp m c news hl hsrc h1 (by unfold maxLen; omega) (by omega) (Nat.zero_le _)
  unfold Oper.wp execOp
  simp only [ho, resolve, invoke, builtin, Sem.run_bind, Sem.run_pure, Result.andThen_ok, List.map_toArray, List.map_cons, List.map_nil, hv, hx, hr]
  refine h a' cap' w' ⟨_, rfl, h2, ((Fr.refl (Ob v) w).grown h3 fun k hk => .inl hk), fun g hg => ?_⟩
  rcases h4 with h4 | h4
  · exact .inl (by rw [← h4]; exact hg)
  · exact .inr (by rw [h4] at hg; cases hg; exact Nat.le_refl _)

set_option maxHeartbeats 1000000 in
theorem join_p (w : World) (b b' : Nat) (kv cv kv' cv' : Value) (ks ks' : List S) (cs cs' : List Value) (h : NdAt w 167 134 2 b kv cv ks cs) (h' : NdAt w 167 134 2 b' kv' cv' ks' cs')
    (hd : ∀ g, Own b kv cv g → ¬ Own b' kv' cv' g) (hn : ks.length + ks'.length ≤ 8796093022208) :
    Calls Tryz.prog 119 #[.pointer (some ⟨b, 0, none⟩), .pointer (some ⟨b', 0, none⟩)] w fun e w' => e = .returned (.tuple #[]) ∧ NdPost w 167 134 2 b kv cv (ks ++ ks') (cs ++ cs') w' := by
  obtain ⟨a2, c2, rfl, -, -⟩ := own_form h'.rk
  obtain ⟨a3, c3, rfl, -, -⟩ := own_form h'.rc
  have H := hid h; have H' := hid h'; have HD := hid hd; have HN := hid hn
  clear h h' hd hn
  have HL : Hid ((ks ++ ks').length = ks.length + ks'.length) := hid (by simp)
  have E1 : Hid (sv (ks ++ ks') = sv ks ++ sv ks') := hid (by simp [sv])
  have c0 : w.cell? ⟨b, 0, none⟩ = some kv := H.out.blk.cell 0
  have c0' : w.cell? ⟨b', 0, none⟩ = some (.slice a2 ks'.length c2) := H'.out.blk.cell 0
  go_enter Tryz.func119, Tryz.ntmps119
  go_wp2_with fail
  have hold : Facts.hold [(4, fun w' => w'.cell? ⟨b, 0, none⟩ = some kv), (8, fun w' => w'.cell? ⟨b', 0, none⟩ = some (.slice a2 ks'.length c2))] w.drew := Facts.cons_hold c0 (Facts.cons_hold c0' (Facts.nil_hold _))
  refine wpD_region hold (by kernel_rfl) 13 rfl ?_
  (refine wpD_plain 0 (v := ?_) rfl (by kernel_rfl) (by kernel_rfl) (by kernel_rfl) (fun _ _ _ h => h) (by rfl) ?_ (by assumption) ?_; rotate_left; (intro _w; go_simp; try with_reducible rfl); simp only [Act.put, List.setIfInBounds_toArray, List.set_cons_zero, List.set_cons_succ])
  (refine wpD_plain 1 (v := ?_) rfl (by kernel_rfl) (by kernel_rfl) (by kernel_rfl) (fun _ _ _ h => h) (by rfl) ?_ (by assumption) ?_; rotate_left; (intro _w; go_simp; try with_reducible rfl); simp only [Act.put, List.setIfInBounds_toArray, List.set_cons_zero, List.set_cons_succ])
  (refine wpD_plain 2 (v := ?_) rfl (by kernel_rfl) (by kernel_rfl) (by kernel_rfl) (fun _ _ _ h => h) (by rfl) ?_ (by assumption) ?_; rotate_left; (intro _w; go_simp; try with_reducible rfl); simp only [Act.put, List.setIfInBounds_toArray, List.set_cons_zero, List.set_cons_succ])
  (refine wpD_plain 3 (v := ?_) rfl (by kernel_rfl) (by kernel_rfl) (by kernel_rfl) (fun _ _ _ h => h) (by rfl) ?_ (by assumption) ?_; rotate_left; (intro _w; go_simp; try with_reducible rfl); simp only [Act.put, List.setIfInBounds_toArray, List.set_cons_zero, List.set_cons_succ])
  (refine wpD_take 4 _ rfl (by kernel_rfl) (by kernel_rfl) (by kernel_rfl) (fun _ _ _ h => h) List.mem_cons_self (by rfl) (v := ?_) ?_ (by assumption) ?_; rotate_left; (intro _w _hw; go_simp; try with_reducible rfl); simp only [Act.put, List.setIfInBounds_toArray, List.set_cons_zero, List.set_cons_succ])
  (refine wpD_plain 5 (v := ?_) rfl (by kernel_rfl) (by kernel_rfl) (by kernel_rfl) (fun _ _ _ h => h) (by rfl) ?_ (by assumption) ?_; rotate_left; (intro _w; go_simp; try with_reducible rfl); simp only [Act.put, List.setIfInBounds_toArray, List.set_cons_zero, List.set_cons_succ])
  (refine wpD_plain 6 (v := ?_) rfl (by kernel_rfl) (by kernel_rfl) (by kernel_rfl) (fun _ _ _ h => h) (by rfl) ?_ (by assumption) ?_; rotate_left; (intro _w; go_simp; try with_reducible rfl); simp only [Act.put, List.setIfInBounds_toArray, List.set_cons_zero, List.set_cons_succ])
  (refine wpD_plain 7 (v := ?_) rfl (by kernel_rfl) (by kernel_rfl) (by kernel_rfl) (fun _ _ _ h => h) (by rfl) ?_ (by assumption) ?_; rotate_left; (intro _w; go_simp; try with_reducible rfl); simp only [Act.put, List.setIfInBounds_toArray, List.set_cons_zero, List.set_cons_succ])
  (refine wpD_take 8 _ rfl (by kernel_rfl) (by kernel_rfl) (by kernel_rfl) (fun _ _ _ h => h) (List.mem_cons_of_mem _ List.mem_cons_self) (by rfl) (v := ?_) ?_ (by assumption) ?_; rotate_left; (intro _w _hw; go_simp; try with_reducible rfl); simp only [Act.put, List.setIfInBounds_toArray, List.set_cons_zero, List.set_cons_succ])
  clear hold
  refine wpD_only 9 [] rfl (by kernel_rfl) (by kernel_rfl) (by rfl) (fun K9 hK9 => ?_)
  refine wp_app_s _ _ rfl kv ks.length (sv ks) rfl H.out.rk a2 ks'.length c2 (sv ks') rfl (by simp) (own_src H'.out.rk) (sv_one _) HN.out ?_
  rintro a4 c4 w1 ⟨kvn, hkvn, o1, f1, g1⟩
  cases hkvn
  have F1 : Hid (Fr (Ob kv) w w1) := hid ((Fr.refl _ w).drew.trans' f1)
  have G1 : Hid (∀ g, (Value.slice a4 (ks.length + ks'.length) c4).ownBlock = some g → kv.ownBlock = some g ∨ w.heap.size ≤ g) := hid g1
  have O1 : Hid (w1.ownsRow 0 9 1 (.slice a4 (ks.length + ks'.length) c4) (ks ++ ks').length (sv (ks ++ ks'))) := hid (by rw [HL.out, E1.out]; exact o1)
  clear o1 f1 g1
  refine hK9 _ _ (Facts.nil_hold _) ?_
  simp only [Act.put, List.setIfInBounds_toArray, List.set_cons_zero, List.set_cons_succ]
  clear hK9 K9
  have HB1 : Hid (Blk w1 b 167 [kv, cv]) := hid (H.out.blk.fr F1.out H.out.n1)
  have hold := Facts.nil_hold w1
  (refine wpD_plain 10 (v := ?_) rfl (by kernel_rfl) (by kernel_rfl) (by kernel_rfl) (fun _ _ _ h => h) (by rfl) ?_ (by assumption) ?_; rotate_left; (intro _w; go_simp; try with_reducible rfl); simp only [Act.put, List.setIfInBounds_toArray, List.set_cons_zero, List.set_cons_succ])
  (refine wpD_plain 11 (v := ?_) rfl (by kernel_rfl) (by kernel_rfl) (by kernel_rfl) (fun _ _ _ h => h) (by rfl) ?_ (by assumption) ?_; rotate_left; (intro _w; go_simp; try with_reducible rfl); simp only [Act.put, List.setIfInBounds_toArray, List.set_cons_zero, List.set_cons_succ])
  clear hold
  refine wpD_only 12 [] rfl (by kernel_rfl) (by kernel_rfl) (by rfl) (fun K12 hK12 => ?_)
  refine wp_storeV _ _ _ rfl b 0 (.slice a4 (ks.length + ks'.length) c4) [.slice a4 (ks.length + ks'.length) c4] rfl rfl rfl _ _ HB1.out (by simp) info_nd_p.1 (by intro u hu; simp at hu; subst hu; rfl) ?_
  intro w2 HB2 F2 HS2
  refine hK12 _ _ (Facts.nil_hold _) ?_
  simp only [Act.put, List.setIfInBounds_toArray, List.set_cons_zero, List.set_cons_succ]
  clear hK12 K12
  refine wpD_done (by kernel_rfl) ?_ _
  have c1 : w2.cell? ⟨b, 1, none⟩ = some cv := HB2.out.cell 1
  have HA2 : Hid (NdAt w2 167 134 2 b' (.slice a2 ks'.length c2) (.slice a3 ks'.length c3) ks' cs') := hid ((H'.out.fr F1.out (fun g hg e => HD.out g (.inr (.inl e)) hg)).fr F2.out (fun g hg e => HD.out g (.inl e) hg))
  have c1' : w2.cell? ⟨b', 1, none⟩ = some (.slice a3 ks'.length c3) := HA2.out.blk.cell 1
  have R2 : Hid (w2.ownsRow 0 134 2 cv ks.length cs) := hid (own_fr (own_fr H.out.rc F1.out (fun g hg e => H.out.n3 g e hg)) F2.out (fun g hg (e : g = b) => H.out.n2 (by rw [hg, e])))
  go_wp2_with fail
  have hold : Facts.hold [(4, fun w' => w'.cell? ⟨b, 1, none⟩ = some cv), (8, fun w' => w'.cell? ⟨b', 1, none⟩ = some (.slice a3 ks'.length c3))] w2.drew := Facts.cons_hold c1 (Facts.cons_hold c1' (Facts.nil_hold _))
  refine wpD_region hold (by kernel_rfl) 13 rfl ?_
  (refine wpD_plain 0 (v := ?_) rfl (by kernel_rfl) (by kernel_rfl) (by kernel_rfl) (fun _ _ _ h => h) (by rfl) ?_ (by assumption) ?_; rotate_left; (intro _w; go_simp; try with_reducible rfl); simp only [Act.put, List.setIfInBounds_toArray, List.set_cons_zero, List.set_cons_succ])
  (refine wpD_plain 1 (v := ?_) rfl (by kernel_rfl) (by kernel_rfl) (by kernel_rfl) (fun _ _ _ h => h) (by rfl) ?_ (by assumption) ?_; rotate_left; (intro _w; go_simp; try with_reducible rfl); simp only [Act.put, List.setIfInBounds_toArray, List.set_cons_zero, List.set_cons_succ])
  (refine wpD_plain 2 (v := ?_) rfl (by kernel_rfl) (by kernel_rfl) (by kernel_rfl) (fun _ _ _ h => h) (by rfl) ?_ (by assumption) ?_; rotate_left; (intro _w; go_simp; try with_reducible rfl); simp only [Act.put, List.setIfInBounds_toArray, List.set_cons_zero, List.set_cons_succ])
  (refine wpD_plain 3 (v := ?_) rfl (by kernel_rfl) (by kernel_rfl) (by kernel_rfl) (fun _ _ _ h => h) (by rfl) ?_ (by assumption) ?_; rotate_left; (intro _w; go_simp; try with_reducible rfl); simp only [Act.put, List.setIfInBounds_toArray, List.set_cons_zero, List.set_cons_succ])
  (refine wpD_take 4 _ rfl (by kernel_rfl) (by kernel_rfl) (by kernel_rfl) (fun _ _ _ h => h) List.mem_cons_self (by rfl) (v := ?_) ?_ (by assumption) ?_; rotate_left; (intro _w _hw; go_simp; try with_reducible rfl); simp only [Act.put, List.setIfInBounds_toArray, List.set_cons_zero, List.set_cons_succ])
  (refine wpD_plain 5 (v := ?_) rfl (by kernel_rfl) (by kernel_rfl) (by kernel_rfl) (fun _ _ _ h => h) (by rfl) ?_ (by assumption) ?_; rotate_left; (intro _w; go_simp; try with_reducible rfl); simp only [Act.put, List.setIfInBounds_toArray, List.set_cons_zero, List.set_cons_succ])
  (refine wpD_plain 6 (v := ?_) rfl (by kernel_rfl) (by kernel_rfl) (by kernel_rfl) (fun _ _ _ h => h) (by rfl) ?_ (by assumption) ?_; rotate_left; (intro _w; go_simp; try with_reducible rfl); simp only [Act.put, List.setIfInBounds_toArray, List.set_cons_zero, List.set_cons_succ])
  (refine wpD_plain 7 (v := ?_) rfl (by kernel_rfl) (by kernel_rfl) (by kernel_rfl) (fun _ _ _ h => h) (by rfl) ?_ (by assumption) ?_; rotate_left; (intro _w; go_simp; try with_reducible rfl); simp only [Act.put, List.setIfInBounds_toArray, List.set_cons_zero, List.set_cons_succ])
  (refine wpD_take 8 _ rfl (by kernel_rfl) (by kernel_rfl) (by kernel_rfl) (fun _ _ _ h => h) (List.mem_cons_of_mem _ List.mem_cons_self) (by rfl) (v := ?_) ?_ (by assumption) ?_; rotate_left; (intro _w _hw; go_simp; try with_reducible rfl); simp only [Act.put, List.setIfInBounds_toArray, List.set_cons_zero, List.set_cons_succ])
  clear hold
  refine wpD_only 9 [] rfl (by kernel_rfl) (by kernel_rfl) (by rfl) (fun K9 hK9 => ?_)
  refine wp_app_p _ _ rfl cv ks.length cs rfl R2.out a3 ks'.length c3 cs' rfl HA2.out.rc.1 (own_src HA2.out.rc) H'.out.one HN.out ?_
  rintro a5 c5 w3 ⟨cvn, hcvn, o3, f3, g3⟩
  cases hcvn
  have F3 : Hid (Fr (Ob cv) w2 w3) := hid ((Fr.refl _ w2).drew.trans' f3)
  have G3 : Hid (∀ g, (Value.slice a5 (ks.length + ks'.length) c5).ownBlock = some g → cv.ownBlock = some g ∨ w2.heap.size ≤ g) := hid g3
  have O3 : Hid (w3.ownsRow 0 134 2 (.slice a5 (ks.length + ks'.length) c5) (ks ++ ks').length (cs ++ cs')) := hid (by rw [HL.out]; exact o3)
  clear o3 f3 g3
  refine hK9 _ _ (Facts.nil_hold _) ?_
  simp only [Act.put, List.setIfInBounds_toArray, List.set_cons_zero, List.set_cons_succ]
  clear hK9 K9
  have HB3 : Hid (Blk w3 b 167 [.slice a4 (ks.length + ks'.length) c4, cv]) := hid (Blk.fr (by have := HB2.out; simpa [spl] using this) F3.out H.out.n2)
  have hold := Facts.nil_hold w3
  (refine wpD_plain 10 (v := ?_) rfl (by kernel_rfl) (by kernel_rfl) (by kernel_rfl) (fun _ _ _ h => h) (by rfl) ?_ (by assumption) ?_; rotate_left; (intro _w; go_simp; try with_reducible rfl); simp only [Act.put, List.setIfInBounds_toArray, List.set_cons_zero, List.set_cons_succ])
  (refine wpD_plain 11 (v := ?_) rfl (by kernel_rfl) (by kernel_rfl) (by kernel_rfl) (fun _ _ _ h => h) (by rfl) ?_ (by assumption) ?_; rotate_left; (intro _w; go_simp; try with_reducible rfl); simp only [Act.put, List.setIfInBounds_toArray, List.set_cons_zero, List.set_cons_succ])
  clear hold
  refine wpD_only 12 [] rfl (by kernel_rfl) (by kernel_rfl) (by rfl) (fun K12 hK12 => ?_)
  refine wp_storeV _ _ _ rfl b 1 (.slice a5 (ks.length + ks'.length) c5) [.slice a5 (ks.length + ks'.length) c5] rfl rfl rfl _ _ HB3.out (by simp) info_nd_p.2 (by intro u hu; simp at hu; subst hu; rfl) ?_
  intro w4 HB4 F4 HS4
  refine hK12 _ _ (Facts.nil_hold _) ?_
  simp only [Act.put, List.setIfInBounds_toArray, List.set_cons_zero, List.set_cons_succ]
  clear hK12 K12
  refine wpD_done (by kernel_rfl) ?_ _
  have HON : Hid (∀ u ∈ cs ++ cs', u.oneCell' = true) := hid (fun u hu => (List.mem_append.1 hu).elim (H.out.one u) (H'.out.one u))
  go_wp2
  refine bodyPost_end (v := .tuple #[]) (by simp [results, Tryz.results119]) rfl ⟨rfl, ?_⟩
  exact nd_turn H.out F1.out O1.out G1.out F2.out F3.out O3.out G3.out F4.out (by have := HB4.out; simpa [spl] using this) HON.out

theorem ent_cp (vs : Array Value) (w : World) : (callFunc 130 vs).run Tryz.prog w = .ok (.enter 130 vs) w := by kernel_rfl
theorem build_p (x y : Value) (hx : x.oneCell' = true) (hy : y.oneCell' = true) (hxs : ∃ a n c, x = .slice a n c) (hys : ∃ a n c, y = .slice a n c) (w : World) : (Instr.build 167 #[(0, x), (1, y)]).run Tryz.prog w = .ok (.agg #[x, y]) w := by
  obtain ⟨a, n, c, rfl⟩ := hxs
  obtain ⟨a', n', c', rfl⟩ := hys
  kernel_rfl
set_option maxHeartbeats 1000000 in
theorem cut_nd_p (w : World) (b i : Nat) (kv cv : Value) (ks : List S) (cs : List Value) (h : NdAt w 167 134 2 b kv cv ks cs) (hi : i < ks.length) (hn : ks.length ≤ 8796093022208) :
    Calls Tryz.prog 122 #[.pointer (some ⟨b, 0, none⟩), .int .i64 i] w (CutNd w 167 134 2 b kv cv (ks.take i) (ks.drop i) (cs.take (i * 2)) (cs.drop (i * 2))) := by
  obtain ⟨gk, ck, curk, rfl, hBk, hk1, hk2, hk3, hk4⟩ := own_open h.rk (by omega)
  obtain ⟨gc, cc, curc, rfl, hBc, hc1, hc2, hc3, hc4⟩ := own_open h.rc (by omega)
  unfold maxLen at hk2 hc2
  have H := hid h; have HN := hid hn; have HI := hid hi
  have SK : Hid (∀ j u, (sv (ks.drop i))[j]? = some u → w.cell? ((⟨gk, i, none⟩ : Addr).add j) = some u) := hid (by
    have := cells_s w hBk hk4 (o := i) rfl
    intro j u hj
    exact this j u (by simpa [sv, List.map_drop] using hj))
  have SC : Hid (∀ j u, (cs.drop (i * 2))[j]? = some u → w.cell? ((⟨gc, i * 2, none⟩ : Addr).add j) = some u) := hid (cells_p w hBc hc4 (by omega))
  have LD : Hid ((ks.drop i).length = ks.length - i) := hid (by simp)
  have LC : Hid ((cs.drop (i * 2)).length = (ks.length - i) * 2) := hid (by rw [List.length_drop, h.rc.1]; omega)
  have c0 : w.cell? ⟨b, 0, none⟩ = some (.slice (some ⟨gk, 0, none⟩) ks.length ck) := h.blk.cell 0
  have c1 : w.cell? ⟨b, 1, none⟩ = some (.slice (some ⟨gc, 0, none⟩) ks.length cc) := h.blk.cell 1
  clear h hn hi hBk hBc hk3 hk4 hc3 hc4
  have b1 : (i : Int) ≤ (ks.length : Int) := by have := HI.out; omega
  have b2 : ¬ (ck = i) := by have := HI.out; omega
  have b3 : ¬ (cc = i) := by have := HI.out; omega
  have b4 : i ≤ ks.length := by have := HI.out; omega
  generalize hq : ks.length = n at *
  have HQ := hid hq
  clear hq
  go_enter Tryz.func122, Tryz.ntmps122
  go_wp2_with fail
  have hold : Facts.hold [(3, fun w' => w'.cell? ⟨b, 0, none⟩ = some (.slice (some ⟨gk, 0, none⟩) n ck)), (10, fun w' => w'.cell? ⟨b, 1, none⟩ = some (.slice (some ⟨gc, 0, none⟩) n cc))] w.drew := Facts.cons_hold c0 (Facts.cons_hold c1 (Facts.nil_hold _))
  refine wpD_region hold (by kernel_rfl) 17 rfl ?_
  (refine wpD_plain 0 (v := ?_) rfl (by kernel_rfl) (by kernel_rfl) (by kernel_rfl) (fun _ _ _ h => h) (by rfl) ?_ (by assumption) ?_; rotate_left; (intro _w; go_simp; try with_reducible rfl); simp only [Act.put, List.setIfInBounds_toArray, List.set_cons_zero, List.set_cons_succ])
  (refine wpD_plain 1 (v := ?_) rfl (by kernel_rfl) (by kernel_rfl) (by kernel_rfl) (fun _ _ _ h => h) (by rfl) ?_ (by assumption) ?_; rotate_left; (intro _w; go_simp; try with_reducible rfl); simp only [Act.put, List.setIfInBounds_toArray, List.set_cons_zero, List.set_cons_succ])
  (refine wpD_plain 2 (v := ?_) rfl (by kernel_rfl) (by kernel_rfl) (by kernel_rfl) (fun _ _ _ h => h) (by rfl) ?_ (by assumption) ?_; rotate_left; (intro _w; go_simp; try with_reducible rfl); simp only [Act.put, List.setIfInBounds_toArray, List.set_cons_zero, List.set_cons_succ])
  (refine wpD_take 3 _ rfl (by kernel_rfl) (by kernel_rfl) (by kernel_rfl) (fun _ _ _ h => h) List.mem_cons_self (by rfl) (v := ?_) ?_ (by assumption) ?_; rotate_left; (intro _w _hw; go_simp; try with_reducible rfl); simp only [Act.put, List.setIfInBounds_toArray, List.set_cons_zero, List.set_cons_succ])
  (refine wpD_plain 4 (v := ?_) rfl (by kernel_rfl) (by kernel_rfl) (by kernel_rfl) (fun _ _ _ h => h) (by rfl) ?_ (by assumption) ?_; rotate_left; (intro _w; go_simp; try with_reducible rfl); simp only [Act.put, List.setIfInBounds_toArray, List.set_cons_zero, List.set_cons_succ])
  (refine wpD_plain 5 (v := (.slice (some ⟨gk, i, none⟩) (n - i) (ck - i))) rfl (by kernel_rfl) (by kernel_rfl) (by kernel_rfl) (fun _ _ _ h => h) (by rfl) ?_ (by assumption) ?_; (intro _w; go_simp; skip); simp only [Act.put, List.setIfInBounds_toArray, List.set_cons_zero, List.set_cons_succ])
  (refine wpD_plain 7 (v := ?_) rfl (by kernel_rfl) (by kernel_rfl) (by kernel_rfl) (fun _ _ _ h => h) (by rfl) ?_ (by assumption) ?_; rotate_left; (intro _w; go_simp; try with_reducible rfl); simp only [Act.put, List.setIfInBounds_toArray, List.set_cons_zero, List.set_cons_succ])
  (refine wpD_plain 8 (v := ?_) rfl (by kernel_rfl) (by kernel_rfl) (by kernel_rfl) (fun _ _ _ h => h) (by rfl) ?_ (by assumption) ?_; rotate_left; (intro _w; go_simp; try with_reducible rfl); simp only [Act.put, List.setIfInBounds_toArray, List.set_cons_zero, List.set_cons_succ])
  (refine wpD_plain 9 (v := ?_) rfl (by kernel_rfl) (by kernel_rfl) (by kernel_rfl) (fun _ _ _ h => h) (by rfl) ?_ (by assumption) ?_; rotate_left; (intro _w; go_simp; try with_reducible rfl); simp only [Act.put, List.setIfInBounds_toArray, List.set_cons_zero, List.set_cons_succ])
  (refine wpD_take 10 _ rfl (by kernel_rfl) (by kernel_rfl) (by kernel_rfl) (fun _ _ _ h => h) (List.mem_cons_of_mem _ List.mem_cons_self) (by rfl) (v := ?_) ?_ (by assumption) ?_; rotate_left; (intro _w _hw; go_simp; try with_reducible rfl); simp only [Act.put, List.setIfInBounds_toArray, List.set_cons_zero, List.set_cons_succ])
  (refine wpD_plain 11 (v := ?_) rfl (by kernel_rfl) (by kernel_rfl) (by kernel_rfl) (fun _ _ _ h => h) (by rfl) ?_ (by assumption) ?_; rotate_left; (intro _w; go_simp; try with_reducible rfl); simp only [Act.put, List.setIfInBounds_toArray, List.set_cons_zero, List.set_cons_succ])
  (refine wpD_plain 12 (v := (.slice (some ⟨gc, i * 2, none⟩) (n - i) (cc - i))) rfl (by kernel_rfl) (by kernel_rfl) (by kernel_rfl) (fun _ _ _ h => h) (by rfl) ?_ (by assumption) ?_; (intro _w; go_simp; skip); simp only [Act.put, List.setIfInBounds_toArray, List.set_cons_zero, List.set_cons_succ])
  clear hold
  have hm : n - i ≤ 8796093022208 := by have := HN.out; omega
  have hs0 : (sv (ks.drop i)).length = (n - i) * 1 := by rw [sv_length, LD.out]; omega
  have ho : ∀ u ∈ cs.drop (i * 2), u.oneCell' = true := fun u hu => H.out.one u (List.mem_of_mem_drop hu)
  refine wpD_only 6 [(3, fun w' => w'.cell? ⟨b, 0, none⟩ = some (.slice (some ⟨gk, 0, none⟩) n ck)), (10, fun w' => w'.cell? ⟨b, 1, none⟩ = some (.slice (some ⟨gc, 0, none⟩) n cc))] rfl (by kernel_rfl) (by kernel_rfl) (by rfl) (fun K hK => ?_)
  refine wp_call (.func 129) _ _ rfl 129 [] rfl ent_cs [.slice (some ⟨gk, i, none⟩) (n - i) (ck - i)] (by rfl) ?_
  refine (clone_s w.drew (some ⟨gk, i, none⟩) (n - i) (ck - i) (sv (ks.drop i)) hs0 (.inr ⟨_, rfl, SK.out⟩) (sv_one _) hm).mono ?_
  rintro e w1 hp
  obtain ⟨k1, d1, rfl, o1, f1, g1⟩ := put_nil hp
  have hf1 : Fr No w w1 := (Fr.refl No w).drew.trans' f1
  refine ⟨_, rfl, hK _ _ (Facts.cons_hold (hf1.cell c0 id) (Facts.cons_hold (hf1.cell c1 id) (Facts.nil_hold _))) ?_⟩
  clear hp hK K
  simp only [Act.put, List.setIfInBounds_toArray, List.set_cons_zero, List.set_cons_succ]
  refine wpD_only 13 [(3, fun w' => w'.cell? ⟨b, 0, none⟩ = some (.slice (some ⟨gk, 0, none⟩) n ck)), (10, fun w' => w'.cell? ⟨b, 1, none⟩ = some (.slice (some ⟨gc, 0, none⟩) n cc))] rfl (by kernel_rfl) (by kernel_rfl) (by rfl) (fun K2 hK2 => ?_)
  refine wp_call (.func 130) _ _ rfl 130 [] rfl ent_cp [.slice (some ⟨gc, i * 2, none⟩) (n - i) (cc - i)] (by rfl) ?_
  refine (clone_p w1 (some ⟨gc, i * 2, none⟩) (n - i) (cc - i) (cs.drop (i * 2)) LC.out (.inr ⟨_, rfl, fun j u hj => hf1.cell (SC.out j u hj) id⟩) ho hm).mono ?_
  rintro e w2 hp
  obtain ⟨k2, d2, rfl, o2, f2, g2⟩ := put_nil hp
  have hold0 : Facts.hold [(3, fun w' => w'.cell? ⟨b, 0, none⟩ = some (.slice (some ⟨gk, 0, none⟩) n ck)), (10, fun w' => w'.cell? ⟨b, 1, none⟩ = some (.slice (some ⟨gc, 0, none⟩) n cc))] w2 := Facts.cons_hold ((hf1.trans' f2).cell c0 id) (Facts.cons_hold ((hf1.trans' f2).cell c1 id) (Facts.nil_hold _))
  refine ⟨_, rfl, hK2 _ _ hold0 ?_⟩
  clear hp hK2 K2
  simp only [Act.put, List.setIfInBounds_toArray, List.set_cons_zero, List.set_cons_succ]
  have O1 := hid (own_fr o1 f2 (fun _ _ e => e)); have O2 := hid o2; have F2 := hid (hf1.trans' f2)
  have G1 : Hid (∀ g, (Value.slice k1 (n - i) d1).ownBlock = some g → w.heap.size ≤ g ∧ (Value.slice k2 (n - i) d2).ownBlock ≠ some g) := hid (fun g hg => ⟨g1 g hg, fun e => by have := g2 g e; have := own_lt o1 g hg; omega⟩)
  have G2 : Hid (∀ g, (Value.slice k2 (n - i) d2).ownBlock = some g → w.heap.size ≤ g) := hid (fun g hg => Nat.le_trans hf1.size (g2 g hg))
  clear o1 o2 f1 f2 g1 g2 hf1 hs0 ho
  have hb := build_p (.slice k1 (n - i) d1) (.slice k2 (n - i) d2) rfl rfl ⟨_, _, _, rfl⟩ ⟨_, _, _, rfl⟩
  (refine wpD_plain 14 (v := (.agg #[.slice k1 (n - i) d1, .slice k2 (n - i) d2])) rfl (by kernel_rfl) (by kernel_rfl) (by kernel_rfl) (fun _ _ _ h => h) (by rfl) ?_ (by assumption) ?_; (intro _w; go_simp; skip); simp only [Act.put, List.setIfInBounds_toArray, List.set_cons_zero, List.set_cons_succ])
  refine wpD_only 15 [(3, fun w' => w'.cell? ⟨b, 0, none⟩ = some (.slice (some ⟨gk, 0, none⟩) n ck)), (10, fun w' => w'.cell? ⟨b, 1, none⟩ = some (.slice (some ⟨gc, 0, none⟩) n cc))] rfl (by kernel_rfl) (by kernel_rfl) (by rfl) (fun K3 hK3 => ?_)
  refine wp_box _ _ rfl _ rfl [.slice k1 (n - i) d1, .slice k2 (n - i) d2] rfl ?_
  intro w3 HB3 F3 HS3
  have hold : Facts.hold [(3, fun w' => w'.cell? ⟨b, 0, none⟩ = some (.slice (some ⟨gk, 0, none⟩) n ck)), (10, fun w' => w'.cell? ⟨b, 1, none⟩ = some (.slice (some ⟨gc, 0, none⟩) n cc))] w3 := Facts.cons_hold ((F2.out.trans' F3.out).cell c0 id) (Facts.cons_hold ((F2.out.trans' F3.out).cell c1 id) (Facts.nil_hold _))
  refine hK3 _ _ hold ?_
  simp only [Act.put, List.setIfInBounds_toArray, List.set_cons_zero, List.set_cons_succ]
  clear hK3 K3
  (refine wpD_plain 16 (v := ?_) rfl (by kernel_rfl) (by kernel_rfl) (by kernel_rfl) (fun _ _ _ h => h) (by rfl) ?_ (by assumption) ?_; rotate_left; (intro _w; go_simp; try with_reducible rfl); simp only [Act.put, List.setIfInBounds_toArray, List.set_cons_zero, List.set_cons_succ])
  refine wpD_done (by kernel_rfl) ?_ _
  clear hold
  have HN3 : Hid (NdAt w3 167 134 2 w2.heap.size (.slice k1 (n - i) d1) (.slice k2 (n - i) d2) (ks.drop i) (cs.drop (i * 2))) := hid ⟨HB3.out, by rw [LD.out]; exact own_fr O1.out F3.out (fun _ _ e => e), by rw [LD.out]; exact own_fr O2.out F3.out (fun _ _ e => e), fun u hu => H.out.one u (List.mem_of_mem_drop hu), fun e => by have := own_lt O1.out _ e; omega, fun e => by have := own_lt O2.out _ e; omega, fun g hg => (G1.out g hg).2⟩
  have HF : Hid (Fr No w w3) := hid (F2.out.trans' F3.out)
  have HG : Hid (∀ g, Own w2.heap.size (.slice k1 (n - i) d1) (.slice k2 (n - i) d2) g → w.heap.size ≤ g) := hid (by
    rintro g (hg | hg | hg)
    · rw [hg]; exact F2.out.size
    · exact (G1.out g hg).1
    · exact G2.out g hg)
  clear hb
  have HL3 : Hid (NdAt w3 167 134 2 b (.slice (some ⟨gk, 0, none⟩) n ck) (.slice (some ⟨gc, 0, none⟩) n cc) ks cs) := hid (H.out.fr HF.out (fun _ _ e => e))
  go_wp2_with fail
  refine (size_p w3 b _ _ ks cs HL3.out).mono ?_
  rintro e w4 ⟨rfl, rfl⟩
  rw [HQ.out]
  go_wp2_with fail
  have hr := remove_p w3 b i n _ _ ks cs HL3.out b4 (by rw [HQ.out]; exact Nat.le_refl _) (by rw [HQ.out]; exact HN.out)
  rw [show ks.drop n = [] from by rw [← HQ.out]; exact List.drop_length, show cs.drop (n * 2) = [] from by rw [← HQ.out, ← H.out.rc.1]; exact List.drop_length, List.append_nil, List.append_nil] at hr
  refine hr.mono ?_
  rintro e w5 ⟨rfl, kv1, cv1, hn5, hf5, hg5⟩
  have HN5 := hid hn5; have HF5 := hid hf5; have HG5 := hid hg5
  clear hn5 hf5 hg5 hr
  go_wp2
  go_ret
  have hdj : ∀ g, Own w2.heap.size (.slice k1 (n - i) d1) (.slice k2 (n - i) d2) g → ¬ Own b (.slice (some ⟨gk, 0, none⟩) n ck) (.slice (some ⟨gc, 0, none⟩) n cc) g := fun g h1 h2 => by
    have := HG.out g h1; have := H.out.lt g h2; omega
  have P : CutNd w 167 134 2 b (.slice (some ⟨gk, 0, none⟩) n ck) (.slice (some ⟨gc, 0, none⟩) n cc) (ks.take i) (ks.drop i) (cs.take (i * 2)) (cs.drop (i * 2)) (.returned (.pointer (some ⟨w2.heap.size, 0, none⟩))) w5 :=
    ⟨_, _, _, _, _, rfl, HN3.out.fr HF5.out hdj, HN5.out, HF.out.no.trans' HF5.out, HG.out, fun g hg => (HG5.out g hg).imp id (fun e => Nat.le_trans HF.out.size e), fun g hg hr => (HG5.out g hg).elim (fun e => hdj g hr e) (fun e => by have := HN3.out.lt g hr; omega)⟩
  first | exact P | (simp only [Nat.mul_one] at P ⊢; exact P)
end Go.Proofs.YtflfmkokfbgclaaGreat.TR
