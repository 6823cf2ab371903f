/-
  Parts: cut.
-/
import Derived.Test.YtlnolnaapnijbaaTrQ
namespace Go.Proofs.Ytlnolnaapnijbaa.TR
set_option maxRecDepth 100000
open Go.RowKit K

/-- Two results, the second of which lies in memory. -/
theorem ret_two_cell {P : Program} {fn : Func} {R : Ending → World → Prop} {a : Act} {w : World} {p q : Tmp} {ty : TypeId} {b : Nat} {t : TypeId} {cs : List Value} (hr : fn.results = #[.tmp p, .cell q ty]) (d : TypeDesc) (hp : a.tmps.getD q undef = .pointer (some ⟨b, 0, none⟩)) (hB : Blk w b t cs)
    (hu : P.underlying ty = some d) (hd : (match d with | .struct _ | .array _ _ => true | _ => false) = true) (hi : (P.info? ty).map (·.size) = some cs.length) (hdf : a.defers = [])
    (h : R (.returned (.tuple #[a.tmps.getD p undef, .agg cs.toArray])) w) : bodyPost P fn R .ret a w := by
  refine bodyPost_ret ?_ hdf h
  have hp' : a.tmps[q]?.getD undef = .pointer (some ⟨b, 0, none⟩) := by simpa using hp
  simp [results, hr, hp', asAddr, run_loadVar_row w b t ty cs.toArray (0, 0) d hB hu hd (by simpa using hi)]
/-- A part is cut in two. -/
def Cut (d : Nat) (w : World) (t : PT d) (i : Nat) (e : Ending) (w' : World) : Prop :=
  ∃ (t1 u : PT d) (k : S) (c : Kid d) (r : List (S × Kid d)), e = .returned (.tuple #[.string k, val d u]) ∧ t.l.drop i = (k, c) :: r ∧ t1.l = t.l.take i ∧ t1.b = t.b ∧ u.l = t.l.drop i ∧ Rep w' d t1 ∧ Rep w' d u ∧ Fr (own t) w w' ∧
    (∀ g, fp d t1 g → fp d t g ∨ w.heap.size ≤ g) ∧ (∀ g, fp d u g → fp d t g ∨ w.heap.size ≤ g) ∧ Dj (fp d t1) (fp d u)
theorem kids_of {d : Nat} {w w' : World} {D E F : Nat → Prop} {l l' : List (S × Kid d)} (h : Kids w d D l) (hs : l'.Sublist l) (hf : Fr F w w') (hF : ∀ x ∈ l, Dj F (fpK d x.2)) (hE : ∀ x ∈ l, Dj E (fpK d x.2)) : Kids w' d E l' :=
  ⟨fun x hx => repK_fr d x.2 (h.rep x (hs.subset hx)) hf (hF x (hs.subset hx)).symm, h.apart.sublist hs, fun x hx => hE x (hs.subset hx)⟩
theorem cut_of {d : Nat} {w0 w w' : World} {t : PT d} {i : Nat} (h0 : Fr No w0 w) (ht : Rep w d t) {b' : Nat} {kv' cv' kv1 cv1 : Value} (n' : NdAt w' (ndT d) (elT d) (elk d) b' kv' cv' (keys (t.l.drop i)) (cells (t.l.drop i))) (n1 : NdAt w' (ndT d) (elT d) (elk d) t.b kv1 cv1 (keys (t.l.take i)) (cells (t.l.take i)))
    (hf : Fr (own t) w w') (g' : ∀ g, Own b' kv' cv' g → w.heap.size ≤ g) (g1 : ∀ g, Own t.b kv1 cv1 g → own t g ∨ w.heap.size ≤ g) (hd : ∀ g, Own t.b kv1 cv1 g → ¬ Own b' kv' cv' g) {k : S} {c : Kid d} {r : List (S × Kid d)} (hk : t.l.drop i = (k, c) :: r) {v : Value}
    (hv : val d (⟨b', kv', cv', t.l.drop i⟩ : PT d) = v) : Cut d w0 t i (.returned (.tuple #[.string k, v])) w' := by
  subst hv
  have klt : ∀ x ∈ t.l, ∀ g, fpK d x.2 g → g < w.heap.size := fun x hx g hg => repK_lt d w x.2 (ht.kids.rep x hx) g hg
  have k1 : Kids w' d (Own t.b kv1 cv1) (t.l.take i) := kids_of ht.kids (List.take_sublist i t.l) hf ht.kids.off (fun x hx g hg hg' => (g1 g hg).elim (fun e => ht.kids.off x hx g e hg') (fun e => by have := klt x hx g hg'; omega))
  have k2 : Kids w' d (Own b' kv' cv') (t.l.drop i) := kids_of ht.kids (List.drop_sublist i t.l) hf ht.kids.off (fun x hx g hg hg' => by have := g' g hg; have := klt x hx g hg'; omega)
  refine ⟨⟨t.b, kv1, cv1, t.l.take i⟩, ⟨b', kv', cv', t.l.drop i⟩, k, c, r, rfl, hk, rfl, rfl, rfl, ⟨n1, k1⟩, ⟨n', k2⟩, h0.no.trans' hf, fun g hg => ?_, fun g hg => ?_, fun g hg hg' => ?_⟩
  · rcases hg with hg | ⟨x, hx, hg⟩
    · exact (g1 g hg).imp .inl (fun e => Nat.le_trans h0.size e)
    · exact .inl (.inr ⟨x, List.mem_of_mem_take hx, hg⟩)
  · rcases hg with hg | ⟨x, hx, hg⟩
    · exact .inr (Nat.le_trans h0.size (g' g hg))
    · exact .inl (.inr ⟨x, List.mem_of_mem_drop hx, hg⟩)
  · rcases hg with hg | ⟨x, hx, hg⟩
    · rcases hg' with hg' | ⟨y, hy, hg'⟩
      · exact hd g hg hg'
      · exact (g1 g hg).elim (fun e => ht.kids.off y (List.mem_of_mem_drop hy) g e hg') (fun e => by have := klt y (List.mem_of_mem_drop hy) g hg'; omega)
    · rcases hg' with hg' | ⟨y, hy, hg'⟩
      · have := g' g hg'; have := klt x (List.mem_of_mem_take hx) g hg; omega
      · have hap := ht.kids.apart
        rw [← List.take_append_drop i t.l] at hap
        exact (List.pairwise_append.1 hap).2.2 x hx y hy g hg hg'

theorem zero_pt (w : World) : (zeroValue 103).run Try.prog w = .ok (.agg #[.pointer none, .pointer none]) w := by kernel_rfl
theorem build_part (p q : Option Addr) (w : World) : (Instr.build 103 #[(0, .pointer p), (1, .pointer q)]).run Try.prog w = .ok (.agg #[.pointer p, .pointer q]) w := by kernel_rfl
theorem build_leaf (p : Option Addr) (w : World) : (Instr.build 103 #[(0, .pointer p)]).run Try.prog w = .ok (.agg #[.pointer p, .pointer none]) w := by kernel_rfl
theorem build_inner (p : Option Addr) (w : World) : (Instr.build 103 #[(1, .pointer p)]).run Try.prog w = .ok (.agg #[.pointer none, .pointer p]) w := by kernel_rfl
set_option maxHeartbeats 1000000 in
theorem pcut_any : ∀ (d : Nat) (w : World) (t : PT d) (i : Nat), Rep w d t → i < t.l.length → t.l.length ≤ 8796093022208 → Calls Try.prog 84 #[val d t, .int .i64 i] w (Cut d w t i)
  | 0, w, t, i, ht, hi, hn => by
    have HT := hid ht; have HI := hid hi; have HN := hid hn
    obtain ⟨k, c, hk⟩ : ∃ (k : S) (c : Kid 0), t.l.drop i = (k, c) :: t.l.drop (i + 1) := ⟨_, _, List.drop_eq_getElem_cons hi⟩
    have HK := hid hk
    clear ht hi hn hk
    have bl := build_leaf
    show Calls Try.prog _ #[.agg #[.pointer (some ⟨t.b, 0, none⟩), .pointer none], .int .i64 i] w _
    go_enter Try.func84, Try.ntmps84
    go_wp2_with (first
      | ((with_reducible show wpList _ _ _ ({ dst := _, op := .box 103 _, type := _, pos := _, after := _, guard := _ } :: _) _ _); refine wpL_box rfl _ _ rfl _ rfl [.pointer (some ⟨t.b, 0, none⟩), .pointer none] rfl ?_; intro w1 HB1 F1 HS1)
      | ((with_reducible show wpList _ _ _ ({ dst := _, op := .alloc 103, type := _, pos := _, after := _, guard := _ } :: _) _ _); refine wpL_alloc rfl _ rfl _ zero_pt [.pointer none, .pointer none] rfl ?_; intro w2 HB2 F2 HS2; have c0 : w2.cell? ⟨w.heap.size, 0, none⟩ = some (.pointer (some ⟨t.b, 0, none⟩)) := (HB1.out.fr F2.out id).cell 0))
    have HF : Hid (Fr No w w2) := hid (F1.out.trans' F2.out)
    have HT2 : Hid (Rep w2 0 t) := hid (HT.out.no HF.out)
    refine (cut_nd_s w2 t.b i t.k t.c (keys t.l) (cells t.l) HT2.out.nd (by rw [keys_length]; exact HI.out) (by rw [keys_length]; exact HN.out)).mono ?_
    rintro e w3 ⟨b', kv', cv', kv1, cv1, rfl, n', n1, f3, g', g1, hdj⟩
    have N' := hid n'; have N1 := hid n1; have F3 := hid f3; have G' := hid g'; have G1 := hid g1; have HDJ := hid hdj
    clear n' n1 f3 g' g1 hdj
    have hks : (keys t.l).drop i = k :: keys (t.l.drop (i + 1)) := by simp only [keys, ← List.map_drop, HK.out, List.map_cons]
    obtain ⟨g, c', hkv, hcell⟩ := own_text (by have := N'.out.rk; exact this) (by rw [hks]; simp)
    have c1 : w3.cell? ⟨b', 0, none⟩ = some (.slice (some ⟨g, 0, none⟩) ((keys t.l).drop i).length c') := by rw [← hkv]; exact N'.out.blk.cell 0
    have c2 : w3.cell? ⟨g, 0, none⟩ = some (.string k) := hcell 0 k (by rw [hks]; rfl)
    have hp : 0 < ((keys t.l).drop i).length := by rw [hks]; simp
    have hp' : (0 : Int) < (((keys t.l).drop i).length : Int) := by omega
    have HB2' : Hid (Blk w3 w1.heap.size 103 [.pointer none, .pointer none]) := hid (HB2.out.fr F3.out (fun e => by have := HT2.out.lt _ (own_fp e); have h2 := HT.out.lt _ (own_fp e); have := F1.out.size; omega))
    clear hkv hcell hks
    generalize hq : ((keys t.l).drop i).length = m at *
    have HQ := hid hq
    clear hq
    go_wp2_with ((with_reducible show wpList _ _ _ ({ dst := _, op := .store 103 _ _, type := _, pos := _, after := _, guard := _ } :: _) _ _); refine wpL_storeV rfl _ _ _ rfl w1.heap.size 0 (.agg #[.pointer (some ⟨b', 0, none⟩), .pointer none]) [.pointer (some ⟨b', 0, none⟩), .pointer none] rfl rfl rfl _ _ HB2'.out (by simp) info_p (by intro u hu; simp at hu; rcases hu with rfl | rfl <;> rfl) ?_; intro w4 HB4 F4 HS4)
    have hne : ∀ g, Own b' kv' cv' g ∨ Own t.b kv1 cv1 g → g ≠ w1.heap.size := fun g hg e => by
      have hs : w2.heap.size = w1.heap.size + 1 := HS2.out
      rcases hg with hg | hg
      · have := G'.out g hg; omega
      · rcases G1.out g hg with h | h
        · have := HT.out.lt _ (own_fp h); have := F1.out.size; omega
        · omega
    refine ret_two_cell rfl _ (by rfl) (cs := [.pointer (some ⟨b', 0, none⟩), .pointer none]) (by have := HB4.out; simpa [spl] using this) rfl rfl info_p rfl ?_
    have hkd : (keys t.l).drop i = keys (t.l.drop i) := by simp [keys]
    have hkt : (keys t.l).take i = keys (t.l.take i) := by simp [keys]
    have hcs := cells_split t.l i (Nat.le_of_lt HI.out)
    have N'' := N'.out.fr F4.out (fun g hg e => hne g (.inl hg) e)
    have N1'' := N1.out.fr F4.out (fun g hg e => hne g (.inr hg) e)
    rw [hkd, show (cells t.l).drop (i * 1) = cells (t.l.drop i) from hcs.2] at N''
    rw [hkt, show (cells t.l).take (i * 1) = cells (t.l.take i) from hcs.1] at N1''
    have hfr : Fr (own t) w w4 := by
      refine (HF.out.no.trans' F3.out).trans (D' := fun k => k = w1.heap.size) F4.out (fun k e => .inr ?_)
      rw [e]; exact F1.out.size
    have hfr2 : Fr (own t) w w4 := hfr
    have hg1 : ∀ g, Own t.b kv1 cv1 g → own t g ∨ w.heap.size ≤ g := fun g hg => (G1.out g hg).imp id (fun e => Nat.le_trans HF.out.size e)
    exact cut_of (v := .agg #[.pointer (some ⟨b', 0, none⟩), .pointer none]) (Fr.refl No w) HT.out N'' N1'' hfr2 (fun g hg => Nat.le_trans HF.out.size (G'.out g hg)) hg1 HDJ.out HK.out rfl
  | d + 1, w, t, i, ht, hi, hn => by
    have HT := hid ht; have HI := hid hi; have HN := hid hn
    obtain ⟨k, c, hk⟩ : ∃ (k : S) (c : Kid (d + 1)), t.l.drop i = (k, c) :: t.l.drop (i + 1) := ⟨_, _, List.drop_eq_getElem_cons hi⟩
    have HK := hid hk
    clear ht hi hn hk
    have bl := build_inner
    show Calls Try.prog _ #[.agg #[.pointer none, .pointer (some ⟨t.b, 0, none⟩)], .int .i64 i] w _
    go_enter Try.func84, Try.ntmps84
    go_wp2_with (first
      | ((with_reducible show wpList _ _ _ ({ dst := _, op := .box 103 _, type := _, pos := _, after := _, guard := _ } :: _) _ _); refine wpL_box rfl _ _ rfl _ rfl [.pointer none, .pointer (some ⟨t.b, 0, none⟩)] rfl ?_; intro w1 HB1 F1 HS1)
      | ((with_reducible show wpList _ _ _ ({ dst := _, op := .alloc 103, type := _, pos := _, after := _, guard := _ } :: _) _ _); refine wpL_alloc rfl _ rfl _ zero_pt [.pointer none, .pointer none] rfl ?_; intro w2 HB2 F2 HS2; have c0 : w2.cell? ⟨w.heap.size, 0, none⟩ = some (.pointer none) := (HB1.out.fr F2.out id).cell 0; have c01 : w2.cell? ⟨w.heap.size, 1, none⟩ = some (.pointer (some ⟨t.b, 0, none⟩)) := (HB1.out.fr F2.out id).cell 1))
    have HF : Hid (Fr No w w2) := hid (F1.out.trans' F2.out)
    have HT2 : Hid (Rep w2 (d + 1) t) := hid (HT.out.no HF.out)
    refine (cut_nd_p w2 t.b i t.k t.c (keys t.l) (cells t.l) HT2.out.nd (by rw [keys_length]; exact HI.out) (by rw [keys_length]; exact HN.out)).mono ?_
    rintro e w3 ⟨b', kv', cv', kv1, cv1, rfl, n', n1, f3, g', g1, hdj⟩
    have N' := hid n'; have N1 := hid n1; have F3 := hid f3; have G' := hid g'; have G1 := hid g1; have HDJ := hid hdj
    clear n' n1 f3 g' g1 hdj
    have hks : (keys t.l).drop i = k :: keys (t.l.drop (i + 1)) := by simp only [keys, ← List.map_drop, HK.out, List.map_cons]
    obtain ⟨g, c', hkv, hcell⟩ := own_text (by have := N'.out.rk; exact this) (by rw [hks]; simp)
    have c1 : w3.cell? ⟨b', 0, none⟩ = some (.slice (some ⟨g, 0, none⟩) ((keys t.l).drop i).length c') := by rw [← hkv]; exact N'.out.blk.cell 0
    have c2 : w3.cell? ⟨g, 0, none⟩ = some (.string k) := hcell 0 k (by rw [hks]; rfl)
    have hp : 0 < ((keys t.l).drop i).length := by rw [hks]; simp
    have hp' : (0 : Int) < (((keys t.l).drop i).length : Int) := by omega
    have HB2' : Hid (Blk w3 w1.heap.size 103 [.pointer none, .pointer none]) := hid (HB2.out.fr F3.out (fun e => by have := HT2.out.lt _ (own_fp e); have h2 := HT.out.lt _ (own_fp e); have := F1.out.size; omega))
    clear hkv hcell hks
    generalize hq : ((keys t.l).drop i).length = m at *
    have HQ := hid hq
    clear hq
    go_wp2_with ((with_reducible show wpList _ _ _ ({ dst := _, op := .store 103 _ _, type := _, pos := _, after := _, guard := _ } :: _) _ _); refine wpL_storeV rfl _ _ _ rfl w1.heap.size 0 (.agg #[.pointer none, .pointer (some ⟨b', 0, none⟩)]) [.pointer none, .pointer (some ⟨b', 0, none⟩)] rfl rfl rfl _ _ HB2'.out (by simp) info_p (by intro u hu; simp at hu; rcases hu with rfl | rfl <;> rfl) ?_; intro w4 HB4 F4 HS4)
    have hne : ∀ g, Own b' kv' cv' g ∨ Own t.b kv1 cv1 g → g ≠ w1.heap.size := fun g hg e => by
      have hs : w2.heap.size = w1.heap.size + 1 := HS2.out
      rcases hg with hg | hg
      · have := G'.out g hg; omega
      · rcases G1.out g hg with h | h
        · have := HT.out.lt _ (own_fp h); have := F1.out.size; omega
        · omega
    refine ret_two_cell rfl _ (by rfl) (cs := [.pointer none, .pointer (some ⟨b', 0, none⟩)]) (by have := HB4.out; simpa [spl] using this) rfl rfl info_p rfl ?_
    have hkd : (keys t.l).drop i = keys (t.l.drop i) := by simp [keys]
    have hkt : (keys t.l).take i = keys (t.l.take i) := by simp [keys]
    have hcs := cells_split t.l i (Nat.le_of_lt HI.out)
    have N'' := N'.out.fr F4.out (fun g hg e => hne g (.inl hg) e)
    have N1'' := N1.out.fr F4.out (fun g hg e => hne g (.inr hg) e)
    rw [hkd, show (cells t.l).drop (i * 2) = cells (t.l.drop i) from hcs.2] at N''
    rw [hkt, show (cells t.l).take (i * 2) = cells (t.l.take i) from hcs.1] at N1''
    have hfr : Fr (own t) w w4 := by
      refine (HF.out.no.trans' F3.out).trans (D' := fun k => k = w1.heap.size) F4.out (fun k e => .inr ?_)
      rw [e]; exact F1.out.size
    have hfr2 : Fr (own t) w w4 := hfr
    have hg1 : ∀ g, Own t.b kv1 cv1 g → own t g ∨ w.heap.size ≤ g := fun g hg => (G1.out g hg).imp id (fun e => Nat.le_trans HF.out.size e)
    exact cut_of (v := .agg #[.pointer none, .pointer (some ⟨b', 0, none⟩)]) (Fr.refl No w) HT.out N'' N1'' hfr2 (fun g hg => Nat.le_trans HF.out.size (G'.out g hg)) hg1 HDJ.out HK.out rfl
end Go.Proofs.Ytlnolnaapnijbaa.TR
