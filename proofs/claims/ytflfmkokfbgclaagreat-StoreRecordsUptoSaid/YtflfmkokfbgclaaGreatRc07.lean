/-
  Part 7 of the proof: TrQ, TrU, TrV, TrW.
-/
import Derived.Test.YtflfmkokfbgclaaGreatRc06
set_option linter.unusedSimpArgs false
set_option linter.unusedVariables false
namespace Go.Proofs.YtflfmkokfbgclaaGreat.TR
set_option maxRecDepth 100000
open Go.RowKit K

@[simp] theorem keys_length {d : Nat} (l : List (S × Kid d)) : (keys l).length = l.length := by simp [keys]
theorem psize_any : ∀ (d : Nat) (w : World) (t : PT d), Rep w d t → Calls Tryz.prog 105 #[val d t] w fun e w' => e = .returned (.int .i64 t.l.length) ∧ Fr No w w'
  | 0, w, t, h => by
    have H := hid h
    clear h
    show Calls Tryz.prog _ #[.agg #[.pointer (some ⟨t.b, 0, none⟩), .pointer none]] w _
    go_enter Tryz.func105, Tryz.ntmps105
    go_wp2_with ((with_reducible show wpList _ _ _ (⟨_, .box 134 _, _, _, _, _⟩ :: _) _ _); refine wpL_box rfl _ _ rfl _ rfl [.pointer (some ⟨t.b, 0, none⟩), .pointer none] rfl ?_; intro w1 HB1 F1 HS1; have c0 : w1.cell? ⟨w.heap.size, 0, none⟩ = some (.pointer (some ⟨t.b, 0, none⟩)) := HB1.out.cell 0)
    refine (size_s w1 t.b _ _ (keys t.l) (cells t.l) (H.out.nd.fr F1.out (fun _ _ e => e))).mono ?_
    rintro e w2 ⟨rfl, rfl⟩
    go_wp2
    go_ret
    exact ⟨rfl, F1.out⟩
  | d + 1, w, t, h => by
    have H := hid h
    clear h
    show Calls Tryz.prog _ #[.agg #[.pointer none, .pointer (some ⟨t.b, 0, none⟩)]] w _
    go_enter Tryz.func105, Tryz.ntmps105
    go_wp2_with ((with_reducible show wpList _ _ _ (⟨_, .box 134 _, _, _, _, _⟩ :: _) _ _); refine wpL_box rfl _ _ rfl _ rfl [.pointer none, .pointer (some ⟨t.b, 0, none⟩)] rfl ?_; intro w1 HB1 F1 HS1; have c0 : w1.cell? ⟨w.heap.size, 0, none⟩ = some (.pointer none) := HB1.out.cell 0; have c1 : w1.cell? ⟨w.heap.size, 1, none⟩ = some (.pointer (some ⟨t.b, 0, none⟩)) := HB1.out.cell 1)
    refine (size_p w1 t.b _ _ (keys t.l) (cells t.l) (H.out.nd.fr F1.out (fun _ _ e => e))).mono ?_
    rintro e w2 ⟨rfl, rfl⟩
    go_wp2
    go_ret
    exact ⟨rfl, F1.out⟩

/-- Two parts are joined. -/
def Joined (d : Nat) (w : World) (t u : PT d) (w' : World) (t' : PT d) : Prop :=
  t'.l = t.l ++ u.l ∧ t'.b = t.b ∧ Rep w' d t' ∧ Fr (own t) w w' ∧ ∀ g, fp d t' g → fp d t g ∨ fp d u g ∨ w.heap.size ≤ g
theorem joined_of {d : Nat} {w0 w w' : World} {t u : PT d} (h0 : Fr No w0 w) (ht : Rep w d t) (hu : Rep w d u) (hd : Dj (fp d t) (fp d u)) (hp : NdPost w (ndT d) (elT d) (elk d) t.b t.k t.c (keys t.l ++ keys u.l) (cells t.l ++ cells u.l) w') : ∃ t' : PT d, Joined d w0 t u w' t' := by
  rw [← keys_append, ← cells_append] at hp
  obtain ⟨t', e1, e2, h1, h2, h3⟩ := rep_node hp ⟨fun x hx => (List.mem_append.1 hx).elim (ht.kids.rep x) (hu.kids.rep x), List.pairwise_append.2 ⟨ht.kids.apart, hu.kids.apart, fun a ha b hb g hg hg' => hd g (.inr ⟨a, ha, hg⟩) (.inr ⟨b, hb, hg'⟩)⟩, fun x hx => (List.mem_append.1 hx).elim (ht.kids.off x) (fun hx g hg hg' => hd g (.inl hg) (.inr ⟨x, hx, hg'⟩))⟩
  refine ⟨t', e1, e2, h1, h0.no.trans' h2, fun g hg => ?_⟩
  rcases hg with hg | ⟨x, hx, hg⟩
  · exact (h3 g hg).elim (fun e => .inl (.inl e)) (fun e => .inr (.inr (Nat.le_trans h0.size e)))
  · rw [e1] at hx
    exact (List.mem_append.1 hx).elim (fun e => .inl (.inr ⟨x, e, hg⟩)) (fun e => .inr (.inl (.inr ⟨x, e, hg⟩)))
theorem own_fp {d : Nat} {t : PT d} {g : Nat} (h : own t g) : fp d t g := .inl h
theorem pjoin_any : ∀ (d : Nat) (w : World) (t u : PT d), Rep w d t → Rep w d u → Dj (fp d t) (fp d u) → t.l.length + u.l.length ≤ 8796093022208 →
    Calls Tryz.prog 103 #[val d t, val d u] w fun e w' => e = .returned (.tuple #[]) ∧ ∃ t' : PT d, Joined d w t u w' t'
  | 0, w, t, u, ht, hu, hd, hn => by
    have HT := hid ht; have HU := hid hu; have HD := hid hd; have HN := hid hn
    clear ht hu hd hn
    show Calls Tryz.prog _ #[.agg #[.pointer (some ⟨t.b, 0, none⟩), .pointer none], .agg #[.pointer (some ⟨u.b, 0, none⟩), .pointer none]] w _
    go_enter Tryz.func103, Tryz.ntmps103
    go_wp2_with (first
      | ((with_reducible show wpList _ _ _ (⟨_, .box 134 _, _, _, _, _⟩ :: _) _ _); have := HB1; refine wpL_box rfl _ _ rfl _ rfl [.pointer (some ⟨u.b, 0, none⟩), .pointer none] rfl ?_; intro w2 HB2 F2 HS2; have c0 : w2.cell? ⟨w.heap.size, 0, none⟩ = some (.pointer (some ⟨t.b, 0, none⟩)) := (HB1.out.fr F2.out id).cell 0; have c2 : w2.cell? ⟨w1.heap.size, 0, none⟩ = some (.pointer (some ⟨u.b, 0, none⟩)) := HB2.out.cell 0)
      | ((with_reducible show wpList _ _ _ (⟨_, .box 134 _, _, _, _, _⟩ :: _) _ _); refine wpL_box rfl _ _ rfl _ rfl [.pointer (some ⟨t.b, 0, none⟩), .pointer none] rfl ?_; intro w1 HB1 F1 HS1))
    have HF : Hid (Fr No w w2) := hid (F1.out.trans' F2.out)
    have HT2 : Hid (Rep w2 0 t) := hid (HT.out.no HF.out)
    have HU2 : Hid (Rep w2 0 u) := hid (HU.out.no HF.out)
    refine (join_s w2 t.b u.b _ _ _ _ (keys t.l) (keys u.l) (cells t.l) (cells u.l) HT2.out.nd HU2.out.nd (fun g h1 h2 => HD.out g (own_fp h1) (own_fp h2)) (by rw [keys_length, keys_length]; exact HN.out)).mono ?_
    rintro e w3 ⟨rfl, hp⟩
    have HP := hid hp
    clear hp
    go_wp2
    refine bodyPost_end (v := .tuple #[]) (by simp [results, Tryz.results103]) rfl ⟨rfl, ?_⟩
    exact joined_of HF.out HT2.out HU2.out HD.out HP.out
  | d + 1, w, t, u, ht, hu, hd, hn => by
    have HT := hid ht; have HU := hid hu; have HD := hid hd; have HN := hid hn
    clear ht hu hd hn
    show Calls Tryz.prog _ #[.agg #[.pointer none, .pointer (some ⟨t.b, 0, none⟩)], .agg #[.pointer none, .pointer (some ⟨u.b, 0, none⟩)]] w _
    go_enter Tryz.func103, Tryz.ntmps103
    go_wp2_with (first
      | ((with_reducible show wpList _ _ _ (⟨_, .box 134 _, _, _, _, _⟩ :: _) _ _); have := HB1; refine wpL_box rfl _ _ rfl _ rfl [.pointer none, .pointer (some ⟨u.b, 0, none⟩)] rfl ?_; intro w2 HB2 F2 HS2; have c0 : w2.cell? ⟨w.heap.size, 0, none⟩ = some (.pointer none) := (HB1.out.fr F2.out id).cell 0; have c1 : w2.cell? ⟨w.heap.size, 1, none⟩ = some (.pointer (some ⟨t.b, 0, none⟩)) := (HB1.out.fr F2.out id).cell 1; have c2 : w2.cell? ⟨w1.heap.size, 1, none⟩ = some (.pointer (some ⟨u.b, 0, none⟩)) := HB2.out.cell 1)
      | ((with_reducible show wpList _ _ _ (⟨_, .box 134 _, _, _, _, _⟩ :: _) _ _); refine wpL_box rfl _ _ rfl _ rfl [.pointer none, .pointer (some ⟨t.b, 0, none⟩)] rfl ?_; intro w1 HB1 F1 HS1))
    have HF : Hid (Fr No w w2) := hid (F1.out.trans' F2.out)
    have HT2 : Hid (Rep w2 (d + 1) t) := hid (HT.out.no HF.out)
    have HU2 : Hid (Rep w2 (d + 1) u) := hid (HU.out.no HF.out)
    refine (join_p w2 t.b u.b _ _ _ _ (keys t.l) (keys u.l) (cells t.l) (cells u.l) HT2.out.nd HU2.out.nd (fun g h1 h2 => HD.out g (own_fp h1) (own_fp h2)) (by rw [keys_length, keys_length]; exact HN.out)).mono ?_
    rintro e w3 ⟨rfl, hp⟩
    have HP := hid hp
    clear hp
    go_wp2
    refine bodyPost_end (v := .tuple #[]) (by simp [results, Tryz.results103]) rfl ⟨rfl, ?_⟩
    exact joined_of HF.out HT2.out HU2.out HD.out HP.out
end Go.Proofs.YtflfmkokfbgclaaGreat.TR

namespace Go.Proofs.YtflfmkokfbgclaaGreat.TR
set_option maxRecDepth 100000
open Go.RowKit K

/-- Two results, the second of which lies in memory. -/
theorem ret_two_cell {P : Program} {fn : Func} {R : Ending → World → Prop} {a : Act} {w : World} {p q : Tmp} {ty : TypeId} {b : Nat} {t : TypeId} {cs : List Value} (hr : fn.results = #[.tmp p, .cell q ty]) (d : TypeDesc) (hp : a.tmps.getD q undef = .pointer (some ⟨b, 0, none⟩)) (hB : Blk w b t cs)
    (hu : P.underlying ty = some d) (hd : (match d with | .struct _ | .array _ _ => true | _ => false) = true) (hi : (P.info? ty).map (·.size) = some cs.length) (hdf : a.defers = [])
    (h : R (.returned (.tuple #[a.tmps.getD p undef, .agg cs.toArray])) w) : bodyPost P fn R .ret a w := by
  refine bodyPost_ret ?_ hdf h
  have hp' : a.tmps[q]?.getD undef = .pointer (some ⟨b, 0, none⟩) := by simpa using hp
  simp [results, hr, hp', asAddr, run_loadVar_row w b t ty cs.toArray (0, 0) d hB hu hd (by simpa using hi)]
/-- A part is cut in two. -/
def Cut (d : Nat) (w : World) (t : PT d) (i : Nat) (e : Ending) (w' : World) : Prop :=
  ∃ (t1 u : PT d) (k : S) (c : Kid d) (r : List (S × Kid d)), e = .returned (.tuple #[.string k, val d u]) ∧ t.l.drop i = (k, c) :: r ∧ t1.l = t.l.take i ∧ t1.b = t.b ∧ u.l = t.l.drop i ∧ Rep w' d t1 ∧ Rep w' d u ∧ Fr (own t) w w' ∧
    (∀ g, fp d t1 g → fp d t g ∨ w.heap.size ≤ g) ∧ (∀ g, fp d u g → fp d t g ∨ w.heap.size ≤ g) ∧ Dj (fp d t1) (fp d u)
theorem kids_of {d : Nat} {w w' : World} {D E F : Nat → Prop} {l l' : List (S × Kid d)} (h : Kids w d D l) (hs : l'.Sublist l) (hf : Fr F w w') (hF : ∀ x ∈ l, Dj F (fpK d x.2)) (hE : ∀ x ∈ l, Dj E (fpK d x.2)) : Kids w' d E l' :=
  ⟨fun x hx => repK_fr d x.2 (h.rep x (hs.subset hx)) hf (hF x (hs.subset hx)).symm, h.apart.sublist hs, fun x hx => hE x (hs.subset hx)⟩
theorem cut_of {d : Nat} {w0 w w' : World} {t : PT d} {i : Nat} (h0 : Fr No w0 w) (ht : Rep w d t) {b' : Nat} {kv' cv' kv1 cv1 : Value} (n' : NdAt w' (ndT d) (elT d) (elk d) b' kv' cv' (keys (t.l.drop i)) (cells (t.l.drop i))) (n1 : NdAt w' (ndT d) (elT d) (elk d) t.b kv1 cv1 (keys (t.l.take i)) (cells (t.l.take i)))
    (hf : Fr (own t) w w') (g' : ∀ g, Own b' kv' cv' g → w.heap.size ≤ g) (g1 : ∀ g, Own t.b kv1 cv1 g → own t g ∨ w.heap.size ≤ g) (hd : ∀ g, Own t.b kv1 cv1 g → ¬ Own b' kv' cv' g) {k : S} {c : Kid d} {r : List (S × Kid d)} (hk : t.l.drop i = (k, c) :: r) {v : Value}
    (hv : val d (⟨b', kv', cv', t.l.drop i⟩ : PT d) = v) : Cut d w0 t i (.returned (.tuple #[.string k, v])) w' := by
  subst hv
  have klt : ∀ x ∈ t.l, ∀ g, fpK d x.2 g → g < w.heap.size := fun x hx g hg => repK_lt d w x.2 (ht.kids.rep x hx) g hg
  have k1 : Kids w' d (Own t.b kv1 cv1) (t.l.take i) := kids_of ht.kids (List.take_sublist i t.l) hf ht.kids.off (fun x hx g hg hg' => (g1 g hg).elim (fun e => ht.kids.off x hx g e hg') (fun e => by have := klt x hx g hg'; omega))
  have k2 : Kids w' d (Own b' kv' cv') (t.l.drop i) := kids_of ht.kids (List.drop_sublist i t.l) hf ht.kids.off (fun x hx g hg hg' => by have := g' g hg; have := klt x hx g hg'; omega)
  refine ⟨⟨t.b, kv1, cv1, t.l.take i⟩, ⟨b', kv', cv', t.l.drop i⟩, k, c, r, rfl, hk, rfl, rfl, rfl, ⟨n1, k1⟩, ⟨n', k2⟩, h0.no.trans' hf, fun g hg => ?_, fun g hg => ?_, fun g hg hg' => ?_⟩
  · rcases hg with hg | ⟨x, hx, hg⟩
    · exact (g1 g hg).imp .inl (fun e => Nat.le_trans h0.size e)
    · exact .inl (.inr ⟨x, List.mem_of_mem_take hx, hg⟩)
  · rcases hg with hg | ⟨x, hx, hg⟩
    · exact .inr (Nat.le_trans h0.size (g' g hg))
    · exact .inl (.inr ⟨x, List.mem_of_mem_drop hx, hg⟩)
  · rcases hg with hg | ⟨x, hx, hg⟩
    · rcases hg' with hg' | ⟨y, hy, hg'⟩
      · exact hd g hg hg'
      · exact (g1 g hg).elim (fun e => ht.kids.off y (List.mem_of_mem_drop hy) g e hg') (fun e => by have := klt y (List.mem_of_mem_drop hy) g hg'; omega)
    · rcases hg' with hg' | ⟨y, hy, hg'⟩
      · have := g' g hg'; have := klt x (List.mem_of_mem_take hx) g hg; omega
      · have hap := ht.kids.apart
        rw [← List.take_append_drop i t.l] at hap
        exact (List.pairwise_append.1 hap).2.2 x hx y hy g hg hg'

theorem zero_pt (w : World) : (zeroValue 134).run Tryz.prog w = .ok (.agg #[.pointer none, .pointer none]) w := by kernel_rfl
theorem build_leaf (p : Option Addr) (w : World) : (Instr.build 134 #[(0, .pointer p)]).run Tryz.prog w = .ok (.agg #[.pointer p, .pointer none]) w := by kernel_rfl
theorem build_inner (p : Option Addr) (w : World) : (Instr.build 134 #[(1, .pointer p)]).run Tryz.prog w = .ok (.agg #[.pointer none, .pointer p]) w := by kernel_rfl
set_option maxHeartbeats 1000000 in
theorem pcut_any : ∀ (d : Nat) (w : World) (t : PT d) (i : Nat), Rep w d t → i < t.l.length → t.l.length ≤ 8796093022208 → Calls Tryz.prog 106 #[val d t, .int .i64 i] w (Cut d w t i)
  | 0, w, t, i, ht, hi, hn => by
    have HT := hid ht; have HI := hid hi; have HN := hid hn
    obtain ⟨k, c, hk⟩ : ∃ (k : S) (c : Kid 0), t.l.drop i = (k, c) :: t.l.drop (i + 1) := ⟨_, _, List.drop_eq_getElem_cons hi⟩
    have HK := hid hk
    clear ht hi hn hk
    have bl := build_leaf
    show Calls Tryz.prog _ #[.agg #[.pointer (some ⟨t.b, 0, none⟩), .pointer none], .int .i64 i] w _
    go_enter Tryz.func106, Tryz.ntmps106
    go_wp2_with (first
      | ((with_reducible show wpList _ _ _ (⟨_, .box 134 _, _, _, _, _⟩ :: _) _ _); refine wpL_box rfl _ _ rfl _ rfl [.pointer (some ⟨t.b, 0, none⟩), .pointer none] rfl ?_; intro w1 HB1 F1 HS1)
      | ((with_reducible show wpList _ _ _ (⟨_, .alloc 134, _, _, _, _⟩ :: _) _ _); refine wpL_alloc rfl _ rfl _ zero_pt [.pointer none, .pointer none] rfl ?_; intro w2 HB2 F2 HS2; have c0 : w2.cell? ⟨w.heap.size, 0, none⟩ = some (.pointer (some ⟨t.b, 0, none⟩)) := (HB1.out.fr F2.out id).cell 0))
    have HF : Hid (Fr No w w2) := hid (F1.out.trans' F2.out)
    have HT2 : Hid (Rep w2 0 t) := hid (HT.out.no HF.out)
    refine (cut_nd_s w2 t.b i t.k t.c (keys t.l) (cells t.l) HT2.out.nd (by rw [keys_length]; exact HI.out) (by rw [keys_length]; exact HN.out)).mono ?_
    rintro e w3 ⟨b', kv', cv', kv1, cv1, rfl, n', n1, f3, g', g1, hdj⟩
    have N' := hid n'; have N1 := hid n1; have F3 := hid f3; have G' := hid g'; have G1 := hid g1; have HDJ := hid hdj
    clear n' n1 f3 g' g1 hdj
    have hks : (keys t.l).drop i = k :: keys (t.l.drop (i + 1)) := by simp only [keys, ← List.map_drop, HK.out, List.map_cons]
    obtain ⟨g, c', hkv, hcell⟩ := own_text (by have := N'.out.rk; exact this) (by rw [hks]; simp)
    have c1 : w3.cell? ⟨b', 0, none⟩ = some (.slice (some ⟨g, 0, none⟩) ((keys t.l).drop i).length c') := by rw [← hkv]; exact N'.out.blk.cell 0
    have c2 : w3.cell? ⟨g, 0, none⟩ = some (.string k) := hcell 0 k (by rw [hks]; rfl)
    have hp : 0 < ((keys t.l).drop i).length := by rw [hks]; simp
    have hp' : (0 : Int) < (((keys t.l).drop i).length : Int) := by omega
    have HB2' : Hid (Blk w3 w1.heap.size 134 [.pointer none, .pointer none]) := hid (HB2.out.fr F3.out (fun e => by have := HT2.out.lt _ (own_fp e); have h2 := HT.out.lt _ (own_fp e); have := F1.out.size; omega))
    clear hkv hcell hks
    generalize hq : ((keys t.l).drop i).length = m at *
    have HQ := hid hq
    clear hq
    go_wp2_with ((with_reducible show wpList _ _ _ (⟨_, .store 134 _ _, _, _, _, _⟩ :: _) _ _); refine wpL_storeV rfl _ _ _ rfl w1.heap.size 0 (.agg #[.pointer (some ⟨b', 0, none⟩), .pointer none]) [.pointer (some ⟨b', 0, none⟩), .pointer none] rfl rfl rfl _ _ HB2'.out (by simp) info_p (by intro u hu; simp at hu; rcases hu with rfl | rfl <;> rfl) ?_; intro w4 HB4 F4 HS4)
    have hne : ∀ g, Own b' kv' cv' g ∨ Own t.b kv1 cv1 g → g ≠ w1.heap.size := fun g hg e => by
      have hs : w2.heap.size = w1.heap.size + 1 := HS2.out
      rcases hg with hg | hg
      · have := G'.out g hg; omega
      · rcases G1.out g hg with h | h
        · have := HT.out.lt _ (own_fp h); have := F1.out.size; omega
        · omega
    refine ret_two_cell rfl _ (by rfl) (cs := [.pointer (some ⟨b', 0, none⟩), .pointer none]) (by have := HB4.out; simpa [spl] using this) rfl rfl info_p rfl ?_
    have hkd : (keys t.l).drop i = keys (t.l.drop i) := by simp [keys]
    have hkt : (keys t.l).take i = keys (t.l.take i) := by simp [keys]
    have hcs := cells_split t.l i (Nat.le_of_lt HI.out)
    have N'' := N'.out.fr F4.out (fun g hg e => hne g (.inl hg) e)
    have N1'' := N1.out.fr F4.out (fun g hg e => hne g (.inr hg) e)
    rw [hkd, show (cells t.l).drop (i * 1) = cells (t.l.drop i) from hcs.2] at N''
    rw [hkt, show (cells t.l).take (i * 1) = cells (t.l.take i) from hcs.1] at N1''
    have hfr : Fr (own t) w w4 := by
      refine (HF.out.no.trans' F3.out).trans (D' := fun k => k = w1.heap.size) F4.out (fun k e => .inr ?_)
      rw [e]; exact F1.out.size
    have hfr2 : Fr (own t) w w4 := hfr
    have hg1 : ∀ g, Own t.b kv1 cv1 g → own t g ∨ w.heap.size ≤ g := fun g hg => (G1.out g hg).imp id (fun e => Nat.le_trans HF.out.size e)
    exact cut_of (v := .agg #[.pointer (some ⟨b', 0, none⟩), .pointer none]) (Fr.refl No w) HT.out N'' N1'' hfr2 (fun g hg => Nat.le_trans HF.out.size (G'.out g hg)) hg1 HDJ.out HK.out rfl
  | d + 1, w, t, i, ht, hi, hn => by
    have HT := hid ht; have HI := hid hi; have HN := hid hn
    obtain ⟨k, c, hk⟩ : ∃ (k : S) (c : Kid (d + 1)), t.l.drop i = (k, c) :: t.l.drop (i + 1) := ⟨_, _, List.drop_eq_getElem_cons hi⟩
    have HK := hid hk
    clear ht hi hn hk
    have bl := build_inner
    show Calls Tryz.prog _ #[.agg #[.pointer none, .pointer (some ⟨t.b, 0, none⟩)], .int .i64 i] w _
    go_enter Tryz.func106, Tryz.ntmps106
    go_wp2_with (first
      | ((with_reducible show wpList _ _ _ (⟨_, .box 134 _, _, _, _, _⟩ :: _) _ _); refine wpL_box rfl _ _ rfl _ rfl [.pointer none, .pointer (some ⟨t.b, 0, none⟩)] rfl ?_; intro w1 HB1 F1 HS1)
      | ((with_reducible show wpList _ _ _ (⟨_, .alloc 134, _, _, _, _⟩ :: _) _ _); refine wpL_alloc rfl _ rfl _ zero_pt [.pointer none, .pointer none] rfl ?_; intro w2 HB2 F2 HS2; have c0 : w2.cell? ⟨w.heap.size, 0, none⟩ = some (.pointer none) := (HB1.out.fr F2.out id).cell 0; have c01 : w2.cell? ⟨w.heap.size, 1, none⟩ = some (.pointer (some ⟨t.b, 0, none⟩)) := (HB1.out.fr F2.out id).cell 1))
    have HF : Hid (Fr No w w2) := hid (F1.out.trans' F2.out)
    have HT2 : Hid (Rep w2 (d + 1) t) := hid (HT.out.no HF.out)
    refine (cut_nd_p w2 t.b i t.k t.c (keys t.l) (cells t.l) HT2.out.nd (by rw [keys_length]; exact HI.out) (by rw [keys_length]; exact HN.out)).mono ?_
    rintro e w3 ⟨b', kv', cv', kv1, cv1, rfl, n', n1, f3, g', g1, hdj⟩
    have N' := hid n'; have N1 := hid n1; have F3 := hid f3; have G' := hid g'; have G1 := hid g1; have HDJ := hid hdj
    clear n' n1 f3 g' g1 hdj
    have hks : (keys t.l).drop i = k :: keys (t.l.drop (i + 1)) := by simp only [keys, ← List.map_drop, HK.out, List.map_cons]
    obtain ⟨g, c', hkv, hcell⟩ := own_text (by have := N'.out.rk; exact this) (by rw [hks]; simp)
    have c1 : w3.cell? ⟨b', 0, none⟩ = some (.slice (some ⟨g, 0, none⟩) ((keys t.l).drop i).length c') := by rw [← hkv]; exact N'.out.blk.cell 0
    have c2 : w3.cell? ⟨g, 0, none⟩ = some (.string k) := hcell 0 k (by rw [hks]; rfl)
    have hp : 0 < ((keys t.l).drop i).length := by rw [hks]; simp
    have hp' : (0 : Int) < (((keys t.l).drop i).length : Int) := by omega
    have HB2' : Hid (Blk w3 w1.heap.size 134 [.pointer none, .pointer none]) := hid (HB2.out.fr F3.out (fun e => by have := HT2.out.lt _ (own_fp e); have h2 := HT.out.lt _ (own_fp e); have := F1.out.size; omega))
    clear hkv hcell hks
    generalize hq : ((keys t.l).drop i).length = m at *
    have HQ := hid hq
    clear hq
    go_wp2_with ((with_reducible show wpList _ _ _ (⟨_, .store 134 _ _, _, _, _, _⟩ :: _) _ _); refine wpL_storeV rfl _ _ _ rfl w1.heap.size 0 (.agg #[.pointer none, .pointer (some ⟨b', 0, none⟩)]) [.pointer none, .pointer (some ⟨b', 0, none⟩)] rfl rfl rfl _ _ HB2'.out (by simp) info_p (by intro u hu; simp at hu; rcases hu with rfl | rfl <;> rfl) ?_; intro w4 HB4 F4 HS4)
    have hne : ∀ g, Own b' kv' cv' g ∨ Own t.b kv1 cv1 g → g ≠ w1.heap.size := fun g hg e => by
      have hs : w2.heap.size = w1.heap.size + 1 := HS2.out
      rcases hg with hg | hg
      · have := G'.out g hg; omega
      · rcases G1.out g hg with h | h
        · have := HT.out.lt _ (own_fp h); have := F1.out.size; omega
        · omega
    refine ret_two_cell rfl _ (by rfl) (cs := [.pointer none, .pointer (some ⟨b', 0, none⟩)]) (by have := HB4.out; simpa [spl] using this) rfl rfl info_p rfl ?_
    have hkd : (keys t.l).drop i = keys (t.l.drop i) := by simp [keys]
    have hkt : (keys t.l).take i = keys (t.l.take i) := by simp [keys]
    have hcs := cells_split t.l i (Nat.le_of_lt HI.out)
    have N'' := N'.out.fr F4.out (fun g hg e => hne g (.inl hg) e)
    have N1'' := N1.out.fr F4.out (fun g hg e => hne g (.inr hg) e)
    rw [hkd, show (cells t.l).drop (i * 2) = cells (t.l.drop i) from hcs.2] at N''
    rw [hkt, show (cells t.l).take (i * 2) = cells (t.l.take i) from hcs.1] at N1''
    have hfr : Fr (own t) w w4 := by
      refine (HF.out.no.trans' F3.out).trans (D' := fun k => k = w1.heap.size) F4.out (fun k e => .inr ?_)
      rw [e]; exact F1.out.size
    have hfr2 : Fr (own t) w w4 := hfr
    have hg1 : ∀ g, Own t.b kv1 cv1 g → own t g ∨ w.heap.size ≤ g := fun g hg => (G1.out g hg).imp id (fun e => Nat.le_trans HF.out.size e)
    exact cut_of (v := .agg #[.pointer none, .pointer (some ⟨b', 0, none⟩)]) (Fr.refl No w) HT.out N'' N1'' hfr2 (fun g hg => Nat.le_trans HF.out.size (G'.out g hg)) hg1 HDJ.out HK.out rfl
end Go.Proofs.YtflfmkokfbgclaaGreat.TR

namespace Go.Proofs.YtflfmkokfbgclaaGreat.TR
set_option maxRecDepth 100000
open Go.RowKit K

theorem okK_mono : ∀ (d : Nat) (lo : S) (hi hi' : Option S) (c : Kid d), (∀ y, Below hi y → Below hi' y) → okK d lo hi c → okK d lo hi' c
  | 0, _, _, _, _, _, _ => trivial
  | d + 1, lo, hi, hi', t, h, hk => ⟨chain_bound (fun k c hc hb => ⟨okK_mono d k hi hi' c h hc, h k hb⟩) hk.1, hk.2⟩
theorem chain_mono {d : Nat} {hi hi' : Option S} {l : List (S × Kid d)} (h : ∀ y, Below hi y → Below hi' y) (hc : Chain (okK d) hi l) : Chain (okK d) hi' l := chain_bound (fun k c hk hb => ⟨okK_mono d k hi hi' c h hk, h k hb⟩) hc
theorem first_take {d : Nat} {lo : S} {l : List (S × Kid d)} {m : Nat} (h : First d lo l) (hm : 0 < m) : First d lo (l.take m) := by
  cases d with
  | zero => exact fun x hx => h x (List.mem_of_mem_take hx)
  | succ d =>
    obtain ⟨c, r, rfl⟩ := h
    obtain ⟨m, rfl⟩ : ∃ q, m = q + 1 := ⟨m - 1, by omega⟩
    exact ⟨c, r.take m, rfl⟩
theorem first_head {d : Nat} {hi : Option S} {k : S} {c : Kid d} {r : List (S × Kid d)} (hc : Chain (okK d) hi ((k, c) :: r)) : First d k ((k, c) :: r) := by
  cases d with
  | zero =>
    intro x hx
    rcases List.mem_cons.1 hx with rfl | hx
    · exact lt_irr _
    · exact lt_asymm (chain_next hc x hx)
  | succ d => exact ⟨c, r, rfl⟩
theorem first_append {d : Nat} {lo k : S} {l m : List (S × Kid d)} (h : First d lo l) (hl : l ≠ []) (hm : ∀ x ∈ m, lt x.1 lo = false) : First d lo (l ++ m) := by
  cases d with
  | zero => exact fun x hx => (List.mem_append.1 hx).elim (h x) (hm x)
  | succ d =>
    obtain ⟨c, r, rfl⟩ := h
    exact ⟨c, r ++ m, rfl⟩

/-- Cut: the order. -/
theorem ok_cut {d : Nat} {k k' : S} {hi : Option S} {x x1 u : PT d} {m : Nat} {c : Kid d} {r : List (S × Kid d)} (h : Ok d k hi x) (h0 : 0 < m) (hm : m < x.l.length) (h1 : x1.l = x.l.take m) (h2 : u.l = x.l.drop m) (hk : x.l.drop m = (k', c) :: r) :
    Ok d k (some k') x1 ∧ Ok d k' hi u ∧ lt k k' = true ∧ Below hi k' := by
  have hc := h.1
  have hc0 := hc
  rw [← List.take_append_drop m x.l, chain_append] at hc
  have hnx : nx hi (x.l.drop m) = some k' := by rw [hk]; rfl
  rw [hnx] at hc
  refine ⟨⟨by rw [h1]; exact hc.1, by rw [h1]; exact first_take h.2 h0⟩, ⟨by rw [h2]; exact hc.2, ?_⟩, ?_, ?_⟩
  · rw [h2, hk]; rw [hk] at hc; exact first_head hc.2
  · have hl0 : 0 < x.l.length := by omega
    have hmem : x.l[0] ∈ x.l.take m := by
      have : (x.l.take m)[0]'(by simp; omega) = x.l[0] := by simp
      rw [← this]; exact List.getElem_mem _
    have a1 : lt x.l[0].1 k = false := ok_first h.1 h.2 _ (List.getElem_mem hl0)
    have a2 : lt x.l[0].1 k' = true := chain_below hc.1 _ hmem
    exact lt_of_le_of_lt a1 a2
  · exact chain_below hc0 (k', c) (List.mem_of_mem_drop (by rw [hk]; simp))
/-- Join: the order. -/
theorem ok_join {d : Nat} {k0 k : S} {hi : Option S} {z x t' : PT d} (hz : Ok d k0 (some k) z) (hx : Ok d k hi x) (hk : lt k0 k = true) (hz0 : z.l ≠ []) (hx0 : x.l ≠ []) (hl : t'.l = z.l ++ x.l) : Ok d k0 hi t' := by
  have hlo := ok_first hx.1 hx.2
  refine ⟨?_, ?_⟩
  · rw [hl, chain_append]
    refine ⟨chain_mono (fun y hy => ?_) hz.1, hx.1⟩
    cases hxl : x.l with
    | nil => exact absurd hxl hx0
    | cons a r => exact lt_of_lt_of_le hy (hlo a (by rw [hxl]; simp))
  · rw [hl]
    exact first_append (k := k) hz.2 hz0 (fun y hy => lt_asymm (lt_of_lt_of_le hk (hlo y hy)))
theorem flat_of {d : Nat} {t : PT d} {l : List (S × Kid d)} (h : t.l = l) : flat d t = flats d l := by unfold flat; rw [h]

/-- A kid is put in the place of another one: the order. -/
theorem chain_put {d : Nat} {hi : Option S} {A B : List (S × Kid (d + 1))} {k : S} {x x' : PT d} (h : Chain (okK (d + 1)) hi (A ++ (k, up x) :: B)) (hx : Ok d k (nx hi B) x') : Chain (okK (d + 1)) hi (A ++ (k, up x') :: B) := by
  rw [chain_append] at h ⊢
  exact ⟨h.1, hx, h.2.2.1, h.2.2.2⟩
theorem chain_kid {d : Nat} {hi : Option S} {A B : List (S × Kid (d + 1))} {k : S} {x : PT d} (h : Chain (okK (d + 1)) hi (A ++ (k, up x) :: B)) : Ok d k (nx hi B) x ∧ Below (nx hi B) k := by
  rw [chain_append] at h
  exact ⟨h.2.1, h.2.2.1⟩
theorem first_put {d : Nat} {lo : S} {A B : List (S × Kid (d + 1))} {k : S} {x x' : PT d} (h : First (d + 1) lo (A ++ (k, up x) :: B)) : First (d + 1) lo (A ++ (k, up x') :: B) := by
  obtain ⟨c, r, e⟩ := h
  cases A with
  | nil => exact ⟨up x', B, by have : k = lo := by injection e with e1 e2; injection e1
                               subst this; rfl⟩
  | cons a A =>
    have : a = (lo, c) := by injection e
    subst this
    exact ⟨c, A ++ (k, up x') :: B, rfl⟩
theorem first_prefix {d : Nat} {lo : S} {A B C : List (S × Kid (d + 1))} (h : First (d + 1) lo (A ++ B)) (hA : A ≠ []) : First (d + 1) lo (A ++ C) := by
  obtain ⟨c, r, e⟩ := h
  cases A with
  | nil => exact absurd rfl hA
  | cons a A =>
    have : a = (lo, c) := by injection e
    subst this
    exact ⟨c, A ++ C, rfl⟩

/-- Cut: the memory. -/
theorem kids_cut {w w' : World} {d : Nat} {t : PT (d + 1)} {A B : List (S × Kid (d + 1))} {k k' : S} {x x1 u : PT d} (h : Rep w (d + 1) t) (hl : t.l = A ++ (k, up x) :: B) (r1 : Rep w' d x1) (ru : Rep w' d u) (hf : Fr (own x) w w')
    (g1 : ∀ g, fp d x1 g → fp d x g ∨ w.heap.size ≤ g) (gu : ∀ g, fp d u g → fp d x g ∨ w.heap.size ≤ g) (hd : Dj (fp d x1) (fp d u)) : Kids w' (d + 1) (own t) (A ++ (k, up x1) :: (k', up u) :: B) := by
  have hmx : (k, up x) ∈ t.l := by rw [hl]; simp
  have hxo : Dj (own t) (fp d x) := h.kids.off _ hmx
  have hlt : ∀ g, own t g → g < w.heap.size := fun g hg => h.nd.lt g hg
  have hap := h.kids.apart
  rw [hl] at hap
  have hA : ∀ a ∈ A, Dj (fpK (d + 1) a.2) (fp d x) := fun a ha => (List.pairwise_append.1 hap).2.2 a ha (k, up x) (by simp)
  have hB : ∀ b ∈ B, Dj (fp d x) (fpK (d + 1) b.2) := fun b hb => (List.pairwise_cons.1 (List.pairwise_append.1 hap).2.1).1 b hb
  have hrA : ∀ a ∈ A, repK w (d + 1) a.2 := fun a ha => h.kids.rep a (by rw [hl]; simp [ha])
  have hrB : ∀ b ∈ B, repK w (d + 1) b.2 := fun b hb => h.kids.rep b (by rw [hl]; simp [hb])
  have hoA : ∀ a ∈ A, Dj (own t) (fpK (d + 1) a.2) := fun a ha => h.kids.off a (by rw [hl]; simp [ha])
  have hoB : ∀ b ∈ B, Dj (own t) (fpK (d + 1) b.2) := fun b hb => h.kids.off b (by rw [hl]; simp [hb])
  have hnew : ∀ (y : PT d), (∀ g, fp d y g → fp d x g ∨ w.heap.size ≤ g) → ∀ (c : Kid (d + 1)), repK w (d + 1) c → Dj (fp d x) (fpK (d + 1) c) → Dj (fp d y) (fpK (d + 1) c) := fun y hy c hc hd g hg hg' => by
    rcases hy g hg with e | e
    · exact hd g e hg'
    · have := repK_lt (d + 1) w c hc g hg'; omega
  have hown : ∀ (y : PT d), (∀ g, fp d y g → fp d x g ∨ w.heap.size ≤ g) → Dj (own t) (fp d y) := fun y hy g hg hg' => by
    rcases hy g hg' with e | e
    · exact hxo g hg e
    · have := hlt g hg; omega
  have hxs : Dj (own x) (own x) → True := fun _ => trivial
  refine ⟨fun y hy => ?_, ?_, fun y hy => ?_⟩
  · rcases List.mem_append.1 hy with hy | hy
    · exact repK_fr (d + 1) y.2 (hrA y hy) hf (fun g hg e => hA y hy g hg (own_fp e))
    · rcases List.mem_cons.1 hy with rfl | hy
      · exact repK_succ.2 r1
      · rcases List.mem_cons.1 hy with rfl | hy
        · exact repK_succ.2 ru
        · exact repK_fr (d + 1) y.2 (hrB y hy) hf (fun g hg e => hB y hy g (own_fp e) hg)
  · rw [List.pairwise_append] at hap ⊢
    obtain ⟨p1, p2, p3⟩ := hap
    rw [List.pairwise_cons] at p2
    refine ⟨p1, List.pairwise_cons.2 ⟨fun b hb => ?_, List.pairwise_cons.2 ⟨fun b hb => hnew u gu b.2 (hrB b hb) (hB b hb), p2.2⟩⟩, fun a ha b hb => ?_⟩
    · rcases List.mem_cons.1 hb with rfl | hb
      · exact hd
      · exact hnew x1 g1 b.2 (hrB b hb) (hB b hb)
    · rcases List.mem_cons.1 hb with rfl | hb
      · exact (hnew x1 g1 a.2 (hrA a ha) (hA a ha).symm).symm
      · rcases List.mem_cons.1 hb with rfl | hb
        · exact (hnew u gu a.2 (hrA a ha) (hA a ha).symm).symm
        · exact p3 a ha b (by simp [hb])
  · rcases List.mem_append.1 hy with hy | hy
    · exact hoA y hy
    · rcases List.mem_cons.1 hy with rfl | hy
      · exact hown x1 g1
      · rcases List.mem_cons.1 hy with rfl | hy
        · exact hown u gu
        · exact hoB y hy
/-- Join: the memory. -/
theorem kids_join {w w' : World} {d : Nat} {t : PT (d + 1)} {A B : List (S × Kid (d + 1))} {k0 k : S} {z x z' : PT d} (h : Rep w (d + 1) t) (hl : t.l = A ++ (k0, up z) :: (k, up x) :: B) (hj : Joined d w z x w' z') :
    Kids w' (d + 1) (own t) (A ++ (k0, up z') :: B) ∧ Fr (own z) w w' := by
  obtain ⟨-, -, rz, hf, gz⟩ := hj
  have hmz : (k0, up z) ∈ t.l := by rw [hl]; simp
  have hmx : (k, up x) ∈ t.l := by rw [hl]; simp
  have hlt : ∀ g, own t g → g < w.heap.size := fun g hg => h.nd.lt g hg
  have hap := h.kids.apart
  rw [hl] at hap
  rw [List.pairwise_append] at hap
  obtain ⟨p1, p2, p3⟩ := hap
  rw [List.pairwise_cons, List.pairwise_cons] at p2
  have hrA : ∀ a ∈ A, repK w (d + 1) a.2 := fun a ha => h.kids.rep a (by rw [hl]; simp [ha])
  have hrB : ∀ b ∈ B, repK w (d + 1) b.2 := fun b hb => h.kids.rep b (by rw [hl]; simp [hb])
  have hzA : ∀ a ∈ A, Dj (fpK (d + 1) a.2) (fp d z) := fun a ha => p3 a ha (k0, up z) (by simp)
  have hxA : ∀ a ∈ A, Dj (fpK (d + 1) a.2) (fp d x) := fun a ha => p3 a ha (k, up x) (by simp)
  have hzB : ∀ b ∈ B, Dj (fp d z) (fpK (d + 1) b.2) := fun b hb => p2.1 b (by simp [hb])
  have hxB : ∀ b ∈ B, Dj (fp d x) (fpK (d + 1) b.2) := fun b hb => p2.2.1 b hb
  have hA' : ∀ a ∈ A, Dj (fpK (d + 1) a.2) (fp d z') := fun a ha g hg hg' => by
    rcases gz g hg' with e | e | e
    · exact hzA a ha g hg e
    · exact hxA a ha g hg e
    · have := repK_lt (d + 1) w a.2 (hrA a ha) g hg; omega
  have hB' : ∀ b ∈ B, Dj (fp d z') (fpK (d + 1) b.2) := fun b hb g hg' hg => by
    rcases gz g hg' with e | e | e
    · exact hzB b hb g e hg
    · exact hxB b hb g e hg
    · have := repK_lt (d + 1) w b.2 (hrB b hb) g hg; omega
  refine ⟨⟨fun y hy => ?_, ?_, fun y hy => ?_⟩, hf⟩
  · rcases List.mem_append.1 hy with hy | hy
    · exact repK_fr (d + 1) y.2 (hrA y hy) hf (fun g hg e => hzA y hy g hg (own_fp e))
    · rcases List.mem_cons.1 hy with rfl | hy
      · exact repK_succ.2 rz
      · exact repK_fr (d + 1) y.2 (hrB y hy) hf (fun g hg e => hzB y hy g (own_fp e) hg)
  · rw [List.pairwise_append, List.pairwise_cons]
    refine ⟨p1, ⟨hB', p2.2.2⟩, fun a ha b hb => ?_⟩
    rcases List.mem_cons.1 hb with rfl | hb
    · exact hA' a ha
    · exact p3 a ha b (by simp [hb])
  · rcases List.mem_append.1 hy with hy | hy
    · exact h.kids.off y (by rw [hl]; simp [hy])
    · rcases List.mem_cons.1 hy with rfl | hy
      · intro g hg hg'
        rcases gz g hg' with e | e | e
        · exact h.kids.off _ hmz g hg e
        · exact h.kids.off _ hmx g hg e
        · have := hlt g hg; omega
      · exact h.kids.off y (by rw [hl]; simp [hy])
end Go.Proofs.YtflfmkokfbgclaaGreat.TR

namespace Go.Proofs.YtflfmkokfbgclaaGreat.TR
set_option maxRecDepth 100000
open Go.RowKit K

/-- The contents' slice of an inner node. -/
theorem node_open {w : World} {d : Nat} {t : PT (d + 1)} (h : Rep w (d + 1) t) (hp : 0 < t.l.length) : ∃ gc cc, t.c = .slice (some ⟨gc, 0, none⟩) t.l.length cc ∧ w.cell? ⟨t.b, 1, none⟩ = some (.slice (some ⟨gc, 0, none⟩) t.l.length cc) ∧ t.l.length ≤ cc ∧ cc ≤ maxLen ∧ own t gc ∧
    ∀ A k x B, t.l = A ++ (k, up x) :: B → w.rangeAt gc (A.length * 2) (ptr d x) := by
  have hn := h.nd
  have hrc := hn.rc
  rw [keys_length] at hrc
  obtain ⟨gc, cc, cur, hv, hB, h1, h2, h3, h4⟩ := own_open hrc hp
  refine ⟨gc, cc, hv, by rw [← hv]; exact hn.blk.cell 1, h1, h2, .inr (.inr (by rw [hv]; rfl)), fun A k x B e => ?_⟩
  have e2 : cells t.l = cells A ++ (ptr d x ++ cells B) := by rw [e, cells_append, cells_cons]; rfl
  have hl : (cells A).length = A.length * 2 := by
    have : ∀ A : List (S × Kid (d + 1)), (cells A).length = A.length * 2 := by
      intro A
      induction A with
      | nil => rfl
      | cons y r ih => rw [cells_cons, List.length_append, ih, show (cellK (d + 1) y.2).length = 2 from cellK_length (d + 1) y.2, List.length_cons]; omega
    exact this A
  refine hB.range _ _ ?_
  have h5 : ((cells t.l).drop (A.length * 2)).take 2 = ptr d x := by
    rw [e2, ← hl, List.drop_left, show (2 : Nat) = (ptr d x).length from (ptr_length d x).symm, List.take_left]
  rw [← h4] at h5
  rw [ptr_length]
  rw [← h5, List.drop_take, List.take_take]
  congr 1
  have : A.length < t.l.length := by rw [e]; simp
  have he : elk (d + 1) = 2 := rfl
  rw [he]; omega
/-- What fit leaves. -/
def Fitted (d : Nat) (lo : S) (hi : Option S) (w : World) (t : PT (d + 1)) (s : Nat) (w' : World) : Prop :=
  ∃ t' : PT (d + 1), Turned (d + 1) w t w' t' ∧ Ok (d + 1) lo hi t' ∧ Good (d + 1) t' ∧ flat (d + 1) t' = flat (d + 1) t ∧ (s ≤ 8 → t'.l.length ≤ t.l.length) ∧ (4 ≤ s → t.l.length ≤ t'.l.length) ∧ t'.l.length ≤ t.l.length + 1 ∧ t.l.length ≤ t'.l.length + 1
theorem val_agg : ∀ (d : Nat) (u : PT d), ∃ p q : Value, val d u = .agg #[p, q] ∧ p.oneCell' = true ∧ q.oneCell' = true
  | 0, u => ⟨_, _, rfl, rfl, rfl⟩
  | _ + 1, u => ⟨_, _, rfl, rfl, rfl⟩
theorem ins_keys {d : Nat} {A B : List (S × Kid (d + 1))} {k k' : S} {x x1 u : PT d} (hb : x1.b = x.b) {l : List (S × Kid (d + 1))} (hl : l = A ++ (k, up x) :: B) {j : Nat} (hj : A.length = j) :
    (keys l).take (j + 1) ++ k' :: (keys l).drop (j + 1) = keys (A ++ (k, up x1) :: (k', up u) :: B) ∧ (cells l).take ((j + 1) * 2) ++ ptr d u ++ (cells l).drop ((j + 1) * 2) = cells (A ++ (k, up x1) :: (k', up u) :: B) := by
  subst hj
  have el : l = (A ++ [(k, up x)]) ++ B := by rw [hl]; simp
  have e3 : l.take (A.length + 1) = A ++ [(k, up x)] := by
    rw [el, show A.length + 1 = (A ++ [(k, up x)]).length by simp, List.take_left]
  have e4 : l.drop (A.length + 1) = B := by
    rw [el, show A.length + 1 = (A ++ [(k, up x)]).length by simp, List.drop_left]
  have hle : A.length + 1 ≤ l.length := by rw [hl]; simp
  constructor
  · have h1 : (keys l).take (A.length + 1) = keys (l.take (A.length + 1)) := by simp [keys]
    have h2 : (keys l).drop (A.length + 1) = keys (l.drop (A.length + 1)) := by simp [keys]
    rw [h1, h2, e3, e4]
    simp [keys]
  · have h := cells_split l (A.length + 1) hle
    have he : elk (d + 1) = 2 := rfl
    rw [he] at h
    rw [h.1, h.2, e3, e4, cells_append, cells_append, cells_cons, cells_cons, cells_cons]
    have h5 : cellK (d + 1) (up x) = cellK (d + 1) (up x1) := (ptr_b hb).symm
    simp only [h5]
    have h6 : cells (d := d + 1) [] = [] := rfl
    rw [h6, List.append_nil]
    simp [cellK]
/-- A kid was cut and the new one put in: the whole. -/
theorem fit_cut {w w3 w4 w5 w6 : World} {d : Nat} {t : PT (d + 1)} {A B : List (S × Kid (d + 1))} {k k' : S} {x x1 u : PT d} {lo : S} {hi : Option S} {s q : Nat} {c : Kid d} {r : List (S × Kid d)} (hr3 : Rep w3 (d + 1) t) (F3 : Fr No w w3) (hl : t.l = A ++ (k, up x) :: B) (hok : Ok (d + 1) lo hi t)
    (hg : ∀ y ∈ A ++ B, szK (d + 1) y.2 ∧ goodK (d + 1) y.2) (hgx : Good d x) (hs : x.l.length = s) (hs9 : 8 < s) (hq : 4 ≤ q) (hqs : q < s) (hq8 : s - q ≤ 8 ∧ 4 ≤ s - q ∧ q ≤ 8)
    (hdk : x.l.drop q = (k', c) :: r) (l1 : x1.l = x.l.take q) (b1 : x1.b = x.b) (l2 : u.l = x.l.drop q) (r1 : Rep w4 d x1) (ru : Rep w4 d u) (f4 : Fr (own x) w3 w4)
    (g1 : ∀ g, fp d x1 g → fp d x g ∨ w3.heap.size ≤ g) (gu : ∀ g, fp d u g → fp d x g ∨ w3.heap.size ≤ g) (hdj : Dj (fp d x1) (fp d u)) (f5 : Fr No w4 w5)
    (hp : NdPost w5 (ndT (d + 1)) (elT (d + 1)) (elk (d + 1)) t.b t.k t.c (keys (A ++ (k, up x1) :: (k', up u) :: B)) (cells (A ++ (k, up x1) :: (k', up u) :: B)) w6) : Fitted d lo hi w t s w6 := by
  have hk5 := (kids_cut (k' := k') hr3 hl r1 ru f4 g1 gu hdj).fr f5 (fun _ _ _ _ e => e)
  obtain ⟨t', e1, e2, h1, h2, h3⟩ := rep_node hp hk5
  have hmx : (k, up x) ∈ t.l := by rw [hl]; simp
  have hch := hok.1
  rw [hl] at hch
  obtain ⟨hxk, hbk⟩ := chain_kid hch
  obtain ⟨o1, o2, o3, o4⟩ := ok_cut hxk (by omega : 0 < q) (by omega) l1 l2 hdk
  have s3 := F3.size; have s4 := f4.size; have s5 := f5.size
  have hx1l : x1.l.length = q := by rw [l1, List.length_take]; omega
  have hul : u.l.length = s - q := by rw [l2, List.length_drop]; omega
  refine ⟨t', ⟨h1, ?_, fun g hg' => ?_, e2⟩, ⟨?_, ?_⟩, fun y hy => ?_, ?_, fun h => by omega, fun _ => ?_, ?_, ?_⟩
  · exact (F3.no.trans' (f4.mono fun g hg => .inr ⟨(k, up x), hmx, own_fp hg⟩)).trans' (f5.no.trans' (h2.mono fun g hg => .inl hg))
  · rcases hg' with hg' | ⟨y, hy, hg'⟩
    · exact (h3 g hg').imp .inl (fun e => by omega)
    · rw [e1] at hy
      have hold : ∀ y ∈ A ++ B, fpK (d + 1) y.2 g → fp (d + 1) t g := fun y hy e => .inr ⟨y, by rw [hl]; rcases List.mem_append.1 hy with h | h <;> simp [h], e⟩
      rcases List.mem_append.1 hy with hy | hy
      · exact .inl (hold y (by simp [hy]) hg')
      · rcases List.mem_cons.1 hy with rfl | hy
        · exact (g1 g hg').imp (fun e => .inr ⟨(k, up x), hmx, e⟩) (fun e => by omega)
        · rcases List.mem_cons.1 hy with rfl | hy
          · exact (gu g hg').imp (fun e => .inr ⟨(k, up x), hmx, e⟩) (fun e => by omega)
          · exact .inl (hold y (by simp [hy]) hg')
  · rw [e1]
    rw [chain_append] at hch ⊢
    refine ⟨?_, o1, o3, o2, o4, hch.2.2.2⟩
    exact hch.1
  · rw [e1]
    have hf := hok.2
    rw [hl] at hf
    cases A with
    | nil =>
      obtain ⟨c0, r0, e⟩ := hf
      have : k = lo := by injection e with e1 e2; injection e1
      subst this
      exact ⟨up x1, _, rfl⟩
    | cons a A => exact first_prefix hf (by simp)
  · rw [e1] at hy
    rcases List.mem_append.1 hy with hy | hy
    · exact hg y (by simp [hy])
    · rcases List.mem_cons.1 hy with rfl | hy
      · exact ⟨⟨by show 4 ≤ x1.l.length; omega, by show x1.l.length ≤ 8; omega⟩, fun z hz => hgx z (List.mem_of_mem_take (by rw [← l1]; exact hz))⟩
      · rcases List.mem_cons.1 hy with rfl | hy
        · exact ⟨⟨by show 4 ≤ u.l.length; omega, by show u.l.length ≤ 8; omega⟩, fun z hz => hgx z (List.mem_of_mem_drop (by rw [← l2]; exact hz))⟩
        · exact hg y (by simp [hy])
  · rw [flat_of e1, flat_of hl, flats_append, flats_append, flats_cons, flats_cons, flats_cons]
    have h6 : flatK (d + 1) k (up x) = flatK (d + 1) k (up x1) ++ flatK (d + 1) k' (up u) := by
      show flats d x.l = flats d x1.l ++ flats d u.l
      rw [l1, l2, ← flats_append, List.take_append_drop]
    simp only [h6, List.append_assoc]
  · rw [e1, hl]; simp
  · rw [e1, hl]; simp; omega
  · rw [e1, hl]; simp; omega
set_option maxHeartbeats 4000000 in
theorem fit_wide (d : Nat) (w : World) (t : PT (d + 1)) (A B : List (S × Kid (d + 1))) (k : S) (x : PT d) (lo : S) (hi : Option S) (hr : Rep w (d + 1) t) (hl : t.l = A ++ (k, up x) :: B) (hok : Ok (d + 1) lo hi t)
    (hg : ∀ y ∈ A ++ B, szK (d + 1) y.2 ∧ goodK (d + 1) y.2) (hgx : Good d x) (h4 : 4 ≤ x.l.length) (h9 : x.l.length ≤ 11) (hn : t.l.length ≤ 8796093022000) :
    Calls Tryz.prog 99 #[val (d + 1) t, .int .i64 A.length] w fun e w' => e = .returned (.tuple #[]) ∧ Fitted d lo hi w t x.l.length w' := by
  have HR := hid hr; have HL := hid hl; have HOK := hid hok; have HG := hid hg; have HGX := hid hgx; have HN := hid hn
  have hAl : A.length < t.l.length := by rw [hl]; simp
  obtain ⟨gc, cc, hcv, hc1, hcc1, hcc2, hog, hrange⟩ := node_open hr (by omega)
  have HRG := hid (hrange A k x B hl)
  have HAL := hid hAl
  unfold maxLen at hcc2
  have hAi : (A.length : Int) < (t.l.length : Int) := by omega
  have hlt := hr.lt t.b (own_fp (.inl rfl))
  have hltg := hr.lt gc (own_fp hog)
  have HLT := hid hlt; have HLG := hid hltg
  clear hr hl hok hg hgx hn hrange hcv hog hAl hlt hltg
  have hlt4 : ¬ ((x.l.length : Int) < 4) := by omega
  have hlt4' : ¬ (x.l.length < 4) := by omega
  generalize hm : t.l.length = m at *
  have HM := hid hm
  clear hm
  show Calls Tryz.prog _ #[.agg #[.pointer none, .pointer (some ⟨t.b, 0, none⟩)], .int .i64 A.length] w _
  generalize hja : A.length = j at *
  have HJ := hid hja
  clear hja
  go_enter Tryz.func99, Tryz.ntmps99
  go_wp2_with (first
    | ((with_reducible show wpList _ _ _ (⟨_, .box 134 _, _, _, _, _⟩ :: _) _ _); refine wpL_box rfl _ _ rfl _ rfl [.pointer none, .pointer (some ⟨t.b, 0, none⟩)] rfl ?_; intro w1 HB1 F1 HS1; have c0 : w1.cell? ⟨w.heap.size, 1, none⟩ = some (.pointer (some ⟨t.b, 0, none⟩)) := HB1.out.cell 1; have c1 : w1.cell? ⟨t.b, 1, none⟩ = some (.slice (some ⟨gc, 0, none⟩) m cc) := F1.out.cell hc1 id)
    | ((with_reducible show wpList _ _ _ (⟨_, .load 134 _, _, _, _, _⟩ :: _) _ _); refine wpL_load rfl _ _ rfl gc (j * 2) rfl (ptr d x) _ (F1.out.range HRG.out id) rfl rfl (by rw [ptr_length]; exact info_p) ?_))
  have HRX1 : Hid (Rep w1 d x) := hid ((repK_succ.1 (HR.out.kids.rep (k, up x) (by rw [HL.out]; simp))).no F1.out)
  refine (psize_any d w1 x HRX1.out).mono ?_
  rintro e w2 ⟨rfl, f2⟩
  have F2 : Hid (Fr No w w2) := hid (F1.out.trans' f2)
  have d0 : w2.cell? ⟨w.heap.size, 1, none⟩ = some (.pointer (some ⟨t.b, 0, none⟩)) := f2.cell c0 id
  have HBX2 : Hid (Blk w2 w.heap.size 134 [.pointer none, .pointer (some ⟨t.b, 0, none⟩)]) := hid (HB1.out.fr f2 id)
  have d1 : w2.cell? ⟨t.b, 1, none⟩ = some (.slice (some ⟨gc, 0, none⟩) m cc) := f2.cell c1 id
  have HRX2 : Hid (Rep w2 d x) := hid (HRX1.out.no f2)
  clear f2 c0 c1
  generalize hs : x.l.length = s at *
  have HS := hid hs
  clear hs
  go_wp2_with ((with_reducible show wpList _ _ _ (⟨_, .load 134 _, _, _, _, _⟩ :: _) _ _); refine wpL_load rfl _ _ rfl gc (j * 2) rfl (ptr d x) _ (F2.out.range HRG.out id) rfl rfl (by rw [ptr_length]; exact info_p) ?_)
  refine (psize_any d w2 x HRX2.out).mono ?_
  rw [HS.out]
  rintro e w3 ⟨rfl, f3⟩
  have F3 : Hid (Fr No w w3) := hid (F2.out.trans' f3)
  have e0 : w3.cell? ⟨w.heap.size, 1, none⟩ = some (.pointer (some ⟨t.b, 0, none⟩)) := f3.cell d0 id
  have e1 : w3.cell? ⟨t.b, 1, none⟩ = some (.slice (some ⟨gc, 0, none⟩) m cc) := f3.cell d1 id
  have HBX3 : Hid (Blk w3 w.heap.size 134 [.pointer none, .pointer (some ⟨t.b, 0, none⟩)]) := hid (HBX2.out.fr f3 id)
  have HRX3 : Hid (Rep w3 d x) := hid (HRX2.out.no f3)
  have HR3 : Hid (Rep w3 (d + 1) t) := hid (HR.out.no F3.out)
  clear f3 d0 d1 HRX1 HRX2 HBX2 F1 F2 HB1
  by_cases h8 : s ≤ 8
  · have h8' : ¬ (8 < (s : Int)) := by omega
    have h8n : ¬ (8 < s) := by omega
    go_wp2
    refine bodyPost_end (v := .tuple #[]) (by simp [results, Tryz.results99]) rfl ⟨rfl, ?_⟩
    refine ⟨t, Turned.refl HR.out F3.out, HOK.out, fun y hy => ?_, rfl, fun _ => Nat.le_refl _, fun _ => Nat.le_refl _, by omega, by omega⟩
    rw [HL.out] at hy
    rcases List.mem_append.1 hy with hy | hy
    · exact HG.out y (by simp [hy])
    · rcases List.mem_cons.1 hy with rfl | hy
      · exact ⟨⟨by rw [show (Nd.l (α := Kid d) (up x)).length = s from HS.out]; omega, by rw [show (Nd.l (α := Kid d) (up x)).length = s from HS.out]; omega⟩, HGX.out⟩
      · exact HG.out y (by simp [hy])
  · have h8' : 8 < (s : Int) := by omega
    have h8n : 8 < s := by omega
    have hdv : (s : Int) / 2 = ((s / 2 : Nat) : Int) := by omega
    have HDV := hid hdv
    clear hdv h8
    go_wp2_with ((with_reducible show wpList _ _ _ (⟨_, .load 134 _, _, _, _, _⟩ :: _) _ _); refine wpL_load rfl _ _ rfl gc (j * 2) rfl (ptr d x) _ (F3.out.range HRG.out id) rfl rfl (by rw [ptr_length]; exact info_p) ?_)
    rw [HDV.out]
    generalize hq : s / 2 = q at *
    have hq4 : 4 ≤ q := by omega
    have hqs : q < s := by omega
    have hq8 : s - q ≤ 8 ∧ 4 ≤ s - q ∧ q ≤ 8 := by omega
    have HQ8 := hid hq8
    clear hq hq8
    refine (pcut_any d w3 x q HRX3.out (by rw [HS.out]; omega) (by rw [HS.out]; omega)).mono ?_
    rintro e w4 ⟨x1, u, k', cc', rr, rfl, hdk, l1, b1, l2, r1, ru, f4, g1, gu, hdj⟩
    have HDK := hid hdk; have L1 := hid l1; have B1 := hid b1; have L2 := hid l2; have R1 := hid r1; have RU := hid ru; have F4 := hid f4; have G1 := hid g1; have GU := hid gu; have HDJ := hid hdj
    clear hdk l1 b1 l2 r1 ru f4 g1 gu hdj
    obtain ⟨pu, qu, hvu, hpu, hqu⟩ := val_agg d u
    have HVU := hid hvu
    have hpl : ptr d u = [pu, qu] := by
      have : (val d u) = .agg (ptr d u).toArray := rfl
      rw [hvu] at this
      have h2 : #[pu, qu] = (ptr d u).toArray := by injection this
      have := congrArg Array.toList h2
      simpa using this.symm
    have HPL := hid hpl
    clear hvu hpl
    rw [HVU.out]
    have h0x : ∀ g, own t g → ¬ own x g := fun g h1 h2 => HR.out.kids.off (k, up x) (by rw [HL.out]; simp) g h1 (own_fp h2)
    have H0X := hid h0x
    clear h0x
    have hbx : ∀ g, own x g → g ≠ w.heap.size := fun g h1 e => by
      have := HR.out.lt g (.inr ⟨(k, up x), by rw [HL.out]; simp, own_fp h1⟩); omega
    have n0 : w4.cell? ⟨w.heap.size, 1, none⟩ = some (.pointer (some ⟨t.b, 0, none⟩)) := F4.out.cell e0 (fun e => hbx _ e rfl)
    clear hbx
    have HND4 : Hid (NdAt w4 (ndT (d + 1)) (elT (d + 1)) (elk (d + 1)) t.b t.k t.c (keys t.l) (cells t.l)) := hid (HR3.out.nd.fr F4.out H0X.out)
    have HWL : Hid (w.heap.size < w4.heap.size) := hid (by have := HBX3.out.lt; have := F4.out.size; omega)
    go_wp2_with (first
      | ((with_reducible show wpList _ _ _ (⟨_, .alloc 134, _, _, _, _⟩ :: _) _ _); refine wpL_alloc rfl _ rfl _ zero_pt [.pointer none, .pointer none] rfl ?_; intro w5 HB5 F5 HS5)
      | ((with_reducible show wpList _ _ _ (⟨_, .store 134 _ _, _, _, _, _⟩ :: _) _ _); refine wpL_storeV rfl _ _ _ rfl w4.heap.size 0 (.agg #[pu, qu]) [pu, qu] rfl rfl rfl _ _ HB5.out (by simp) info_p (by intro z hz; simp at hz; rcases hz with rfl | rfl <;> assumption) ?_; intro w6 HB6 F6 HS6; have n1 : w6.cell? ⟨w.heap.size, 1, none⟩ = some (.pointer (some ⟨t.b, 0, none⟩)) := F6.out.cell (F5.out.cell n0 id) (fun e => by have h1 : w.heap.size = w4.heap.size := e; have := HWL.out; omega))
      | ((with_reducible show wpList _ _ _ (⟨_, .load 134 _, _, _, _, _⟩ :: _) _ _); refine wpL_load rfl _ _ rfl w4.heap.size 0 rfl [pu, qu] _ (HB6.out.range 0 _ (by simp [spl])) rfl rfl info_p ?_))
    have HF6 : Hid (Fr No w4 w6) := hid (F5.out.trans (D' := fun k => k = w4.heap.size) F6.out (fun k e => .inr (by rw [e]; exact Nat.le_refl _)))
    have HND6 : Hid (NdAt w6 (ndT (d + 1)) (elT (d + 1)) (elk (d + 1)) t.b t.k t.c (keys t.l) (cells t.l)) := hid (HND4.out.fr HF6.out (fun _ _ e => e))
    have hins := insert_nd_p w6 t.b (j + 1) t.k t.c (keys t.l) (cells t.l) [pu, qu] k' (.agg #[pu, qu]) rfl rfl (by intro z hz; simp at hz; rcases hz with rfl | rfl <;> assumption) ⟨pu, qu, rfl, hpu, hqu⟩ HND6.out (by rw [keys_length, HM.out]; have := HAL.out; omega) (by rw [keys_length, HM.out]; have := HN.out; omega)
    rw [show (((j + 1 : Nat) : Int)) = (j : Int) + 1 from by omega] at hins
    have HINS := hid hins
    clear hins
    refine HINS.out.mono ?_
    rintro e w7 ⟨rfl, hp⟩
    have HP := hid hp
    clear hp
    go_wp2
    refine bodyPost_end (v := .tuple #[]) (by simp [results, Tryz.results99]) rfl ⟨rfl, ?_⟩
    have hik := ins_keys (k' := k') (u := u) B1.out HL.out HJ.out
    have hp2 := HP.out
    rw [← HPL.out, hik.1, hik.2] at hp2
    rw [HS.out]
    exact fit_cut HR3.out F3.out HL.out HOK.out HG.out HGX.out HS.out h8n hq4 hqs HQ8.out HDK.out L1.out B1.out L2.out R1.out RU.out F4.out G1.out GU.out HDJ.out HF6.out hp2
end Go.Proofs.YtflfmkokfbgclaaGreat.TR
