/-
  Key.
-/
import Derived.Test.YthjmkfpdbbfcpaaGreatDoorDnBd
import Derived.Test.YthjmkfpdbbfcpaaGreatDoorDnPr
import Derived.Shelf.Strings.BuilderK
set_option linter.unusedVariables false
set_option linter.unusedSimpArgs false
namespace Go.Proofs.YthjmkfpdbbfcpaaGreatDoor.DN
set_option maxRecDepth 100000
open Go.RowKit K Go.Proofs.YthjmkfpdbbfcpaaGreatDoor.BE

theorem marks_tmp {P : Program} {fn : Func} {R : Ending → World → Prop} {a : Act} {w : World} {D p : Nat} (hd : a.defers = [{ target := .collected D, args := #[] }]) (hK : w.heap[D]? = some (.deferred (some []))) (hr : fn.results = #[.tmp p]) (v : Value) (hv : a.tmps.getD p undef = v)
    (h : ∀ w', Fr (fun k => k = D) w w' → R (.returned v) w') : bodyPostM Fence.wide 3 P fn R .ret a w := by
  show LeavesInM Fence.wide 3 P fn a.tmps R a.defers .returning w
  rw [hd]
  refine ⟨by simp, .inl ⟨D, _, rfl, run_takeDeferred hK, ?_⟩⟩
  refine ⟨v, ?_, h _ (fr_put D (.deferred none))⟩
  have := results_tmp hr a.tmps P (w.putObj D (.deferred none))
  rw [hv] at this
  exact this
theorem normR_len (r : Rd) : (normR r).length = r.length := by simp [normR, srt_len]
theorem normR_b {k : Nat} {r : Rd} (h : RdB k r) : RdB k (normR r) := by
  refine ⟨by rw [normR_len]; exact h.1, fun x hx => ?_⟩
  obtain ⟨a, ha, rfl⟩ := List.mem_map.1 (srt_mem.1 hx)
  have := h.2 a ha
  exact ⟨by show (low a.1).length ≤ k; rw [low_length]; exact this.1, Nat.le_trans (fold_len a.2) this.2⟩
theorem norm_b {k : Nat} {n : Nm} (h : NmB k n) : NmB k (norm n) := by
  refine ⟨by rw [norm_length]; exact h.1, fun r hr => ?_⟩
  obtain ⟨q, hq, rfl⟩ := List.mem_map.1 hr
  exact normR_b (h.2 q hq)
theorem keyL_len {m : Nat} : ∀ {L : Nm}, (∀ r ∈ L, (stepT r).length ≤ m) → (keyL L).length ≤ L.length * (m + 1)
  | [], _ => by simp [keyL]
  | r :: L, h => by
    have ih := keyL_len (fun x hx => h x (List.mem_cons_of_mem _ hx))
    have h0 := h r List.mem_cons_self
    have e : keyL (r :: L) = stepT r ++ 0 :: keyL L := by simp [keyL]
    rw [e, List.length_append, List.length_cons, List.length_cons, Nat.add_mul]
    omega
theorem keyL_snoc (L : Nm) (r : Rd) : keyL (L ++ [r]) = keyL L ++ stepT r ++ [0] := by simp [keyL]
/-- The rows of a name, as they lie there. -/
theorem nm_rows {E : Nat → Prop} {w : World} {u : Value} {N : Nm} (h : NmIn E w u N) : ∃ a cap vs, u = .slice a N.length cap ∧ N.length ≤ cap ∧ vs.length = N.length ∧ (N.length = 0 ∨ ∃ g o, a = some ⟨g, o, none⟩ ∧ E g ∧ g < w.heap.size ∧ w.rangeAt g o vs) ∧ ∀ j r, N[j]? = some r → RdIn E w (vs.getD j undef) r := by
  obtain ⟨a, cap, rfl, hc, -⟩ := h.form
  by_cases h0 : N.length = 0
  · refine ⟨a, cap, List.replicate N.length undef, rfl, hc, by simp, .inl h0, fun j r hr => ?_⟩
    have := (List.getElem?_eq_some_iff.1 hr).1
    omega
  · obtain ⟨x0, hx0⟩ : ∃ x, N[0]? = some x := ⟨_, List.getElem?_eq_getElem (by omega)⟩
    obtain ⟨g, o, cq, c, e1, hE, hgw, -, -, -⟩ := h.get hx0
    simp only [Value.slice.injEq, true_and] at e1
    obtain ⟨rfl, rfl⟩ := e1
    have hall : ∀ j r, N[j]? = some r → ∃ v, w.cell? ⟨g, o + j, none⟩ = some v ∧ RdIn E w v r := fun j r hr => by
      obtain ⟨g', o', cq', c', e1, -, -, hrr, -, hxa⟩ := h.get hr
      simp only [Value.slice.injEq, true_and, Option.some.injEq, Addr.mk.injEq] at e1
      obtain ⟨⟨rfl, rfl, -⟩, rfl⟩ := e1
      obtain ⟨v, rfl, hv⟩ := hxa
      exact ⟨v, by have := hrr 0 v rfl; simpa using this, hv⟩
    refine ⟨_, cap, (List.range N.length).map fun j => (w.cell? ⟨g, o + j, none⟩).getD undef, rfl, hc, by simp, .inr ⟨g, o, rfl, hE, hgw, ?_⟩, fun j r hr => ?_⟩
    · intro j v hj
      have hjl : j < N.length := by have := (List.getElem?_eq_some_iff.1 hj).1; simpa using this
      obtain ⟨v', hv', -⟩ := hall j _ (List.getElem?_eq_getElem hjl)
      simp [hjl, hv'] at hj
      rw [← hj]
      exact hv'
    · have hjl := (List.getElem?_eq_some_iff.1 hr).1
      obtain ⟨v', hv', hr'⟩ := hall j r hr
      rw [List.getD_eq_getElem?_getD]
      simp [hjl, hv']
      exact hr'
theorem zeroBd : ∀ w, (zeroValue 51).run Tryz.prog w = .ok (.agg #[.pointer none, .slice none 0 0]) w := fun _ => by kernel_rfl
theorem builderStringK (base b : Nat) (l : B) (w : World) (h : Bld base b l w) (hb : base ≤ w.heap.size) :
    Calls Tryz.prog 32 #[.pointer (some ⟨b, 0, none⟩)] w fun e w' => e = .returned (.string (sb l)) ∧ Fr (fun k => base ≤ k) w w' ∧ ∀ (k : Nat) d, w.heap[k]? = some (Obj.deferred d) → w'.heap[k]? = some (Obj.deferred d) := by
  refine (Any.Builder_String_any_k lays169 extra156 base b l w (Lib.IsBuilderF.of h) hb).mono ?_
  rintro e w' ⟨rfl, -, h2, h3⟩
  refine ⟨rfl, below_fr' h2, fun k d hk => h3 k _ hk (fun e => ?_) (fun c fz e => by cases e)⟩
  obtain rfl : k = b := Option.some.inj e
  rcases h with h | h <;>
  · obtain ⟨_, v, hv, _⟩ := h
    rw [hv] at hk
    cases hk
/-- Between two rounds: the keys of k steps are written. -/
def KyI (w3 : World) (base b : Nat) (N : Nm) (k : Nat) (W : World) : Prop := BW base b (keyL (N.reverse.take k)) W ∧ Fr (BDm base b) w3 W
set_option maxHeartbeats 8000000 in
theorem key_any (E : Nat → Prop) (v : Value) (n : Nm) (w : World) (h : NmIn E w v n) (hb : NmB 1048576 n) (hs : Short n) (h16 : n.length ≤ 16) (h4 : ∀ r ∈ n, r.length ≤ 4) :
    Calls Tryz.prog 12 #[v] w fun e w' => e = .returned (.string (sb (key n))) ∧ Fr No w w' := by
  have HX := hid h; have HB := hid hb; have HSh := hid hs
  obtain ⟨N, hN⟩ : ∃ N, norm n = N := ⟨_, rfl⟩
  have HNE := hid hN
  have HNL : Hid (N.length ≤ 16 ∧ ∀ r ∈ N, r.length ≤ 4 ∧ RdB 1048576 r) := hid (by
    rw [← hN]
    refine ⟨by rw [norm_length]; exact h16, fun r hr => ⟨?_, (norm_b hb).2 r hr⟩⟩
    obtain ⟨q, hq, rfl⟩ := List.mem_map.1 hr
    rw [normR_len]
    exact h4 q hq)
  obtain ⟨va, vc, rfl, -, -⟩ := h.form
  rw [show key n = keyL N.reverse by rw [key_eq, hN]]
  generalize n.length = m at HX ⊢
  clear h hb hs h16 h4 hN
  refine calls_marks Tryz.func12 rfl ?_
  simp only [Tryz.ntmps12, List.size_toArray, List.length_cons, List.length_nil, Nat.reduceAdd, Nat.reduceSub, Array.replicate_succ, Array.replicate_zero, List.push_toArray, List.append_toArray, List.nil_append, List.cons_append]
  go_wp2_with (first
    | ((with_reducible refine K.atO (.alloc 51) ?_); refine wpL_alloc rfl _ rfl _ zeroBd [.pointer none, .slice none 0 0] rfl ?_; intro w1 HB1 F1 HS1; refine Hid.out ?_)
    | fail)
  have H1 := norm_any E _ n w1 (HX.out.no F1.out) HB.out HSh.out
  rw [HNE.out] at H1
  refine hid ?_
  go_wp2_with fail
  refine H1.mono ?_
  rintro e w2 ⟨u, rfl, hu, f2⟩
  obtain ⟨a, cap, vs, rfl, hcap, hvl, hvs, hvr⟩ := nm_rows hu
  refine hid ?_
  clear H1
  have HU := hid hu; have HF2 := hid (F1.out.trans' f2)
  have HF12 := hid f2
  clear hu f2
  go_wp2_with fail
  refine (backward_any _ rfl w2).mono ?_
  rintro e w3 ⟨rfl, hbx, f3, hs3⟩
  obtain ⟨bx, hbx0⟩ : ∃ x, w2.heap.size = x := ⟨_, rfl⟩
  obtain ⟨b, hb0⟩ : ∃ x, w.heap.size = x := ⟨_, rfl⟩
  rw [hbx0, hb0]
  rw [hbx0] at hbx hs3
  obtain ⟨g, o, hg, hgl⟩ : ∃ g o, (N.length = 0 ∨ (a = some ⟨g, o, none⟩ ∧ w3.rangeAt g o vs)) ∧ b < g ∧ g ≤ bx := by
    rcases hvs with h0 | ⟨g, o, h1, h2, h3, h4⟩
    · exact ⟨bx, 0, .inl h0, by have := HS1.out; have := HF12.out.size; omega, Nat.le_refl _⟩
    · exact ⟨g, o, .inr ⟨h1, f3.range h4 id⟩, by have := HS1.out; have h2 : w1.heap.size ≤ g := h2; omega, by omega⟩
  have hbb : b < bx := by omega
  have HNM := hid (show w3.heap.size = bx + 1 ∧ b < g ∧ g ≤ bx ∧ b < bx ∧ w1.heap.size = b + 1 from ⟨hs3, hgl.1, hgl.2, hbb, by have := HS1.out; omega⟩)
  have HROW : Hid (∀ j r, N[j]? = some r → RdIn (fun k => w1.heap.size ≤ k) w3 (vs.getD j undef) r ∧ (∀ (D : Nat → Prop) (A : World), True → Fr (BDm (bx + 3) b) w3 A → RdIn (fun k => w1.heap.size ≤ k) A (vs.getD j undef) r)) := hid fun j r hr => by
    have h1 := (hvr j r hr).no f3
    refine ⟨h1, fun D A _ hf => h1.fr hf fun i hi hl e => ?_⟩
    have hi : w1.heap.size ≤ i := hi
    have := HNM.out
    rcases e with e | e <;> omega
  have HB3 : Hid (Blk w3 b 51 [.pointer none, .slice none 0 0]) := hid (by rw [← hb0]; exact HB1.out.fr (HF12.out.trans' f3) id)
  have HF3 := hid (HF2.out.trans' f3)
  have HW3 := hid hs3
  have hseq := backward_seq bx g o N.length cap a vs (by have := HNL.out.1; omega) hcap hvl w3 hbx hg
  refine hid ?_
  clear HB1 F1 HS1 HU HF2 HF12 hvs hvr hbx f3 hs3 hg hgl hbb
  go_wp2_with fail
  refine wp_rangePb (gf := 43) (lb := #[.pointer (some ⟨bx, 0, none⟩)]) rfl (fun vs w => by kernel_rfl) (bx := fun i => i = bx ∨ i = g) (by intro i hi; have := HNM.out; omega)
    hseq (fun k x hx => ⟨_, _, (yb_at hx).2⟩) (by simp)
    (KyI w3 (bx + 3) b N) (fun _ _ => False) ?_ (fun _ _ _ h _ => h.elim) ?_ ?_ ?_ (fun _ _ h _ => h.elim)
  · intro k A B h hf
    exact ⟨h.1.fr hf fun i e => by have := HNM.out; omega, h.2.trans hf fun i e => .inr (by omega)⟩
  · exact ⟨⟨by have := HNM.out; omega, _, _, HB3.out, .inl rfl, World.ownsRow_nil _ _ _ _⟩, Fr.refl _ _⟩
  · rintro l k v0 v1 W hx hW hI
    obtain ⟨hk, hx'⟩ := yb_at hx
    obtain ⟨v2, hv2⟩ : ∃ v2, vs.getD (N.length - 1 - k) undef = v2 := ⟨_, rfl⟩
    rw [hv2] at hx'
    obtain ⟨rfl, rfl⟩ : v0 = .int .i64 ((N.length - 1 - k : Nat) : Int) ∧ v1 = v2 := by simpa using hx'
    obtain ⟨r, hr⟩ : ∃ r, N[N.length - 1 - k]? = some r := ⟨_, List.getElem?_eq_getElem (by omega)⟩
    have hrm : r ∈ N := List.mem_of_getElem? hr
    have HR := (HROW.out _ r hr).2 (fun _ => True) W trivial hI.2
    rw [hv2] at HR
    have HST := hid (stepText_any _ _ r W HR (HNL.out.2 r hrm).2 (HNL.out.2 r hrm).1)
    have HSL := hid (stepT_le (HNL.out.2 r hrm).2 (HNL.out.2 r hrm).1)
    have HTK : Hid (N.reverse.take (k + 1) = N.reverse.take k ++ [r]) := hid (by
      rw [List.take_add_one, List.getElem?_reverse hk, hr]
      rfl)
    have HKL : Hid ((keyL (N.reverse.take k)).length ≤ 268435600) := hid (by
      have h1 := keyL_len (L := N.reverse.take k) (m := 16777224) (fun q hq => stepT_le (HNL.out.2 q (List.mem_reverse.1 (List.mem_of_mem_take hq))).2 (HNL.out.2 q (List.mem_reverse.1 (List.mem_of_mem_take hq))).1)
      have h2 : (N.reverse.take k).length ≤ 16 := by rw [List.length_take, List.length_reverse]; have := HNL.out.1; omega
      have h3 := Nat.mul_le_mul_right (16777224 + 1) h2
      omega)
    have HI := hid hI; have HW := hid hW
    obtain ⟨ra, rc, rfl, -, -⟩ := HR.form
    obtain ⟨i, hi⟩ : ∃ i : Int, ((N.length - 1 - k : Nat) : Int) = i := ⟨_, rfl⟩
    rw [hi]
    clear hx' hx hk hr hrm HR hI hW hi hseq hv2
    simp only [List.setIfInBounds_toArray, List.set_cons_zero, List.set_cons_succ]
    refine wpIn_block ?_
    refine wpIn_seq ?_
    refine wpIn_region_plain (by rfl) (fun ⟨_, _, h⟩ => h) ?_
    go_wp2_with fail
    refine HST.out.mono ?_
    rintro e W1 ⟨rfl, f1⟩
    have HF1 := hid f1
    clear f1
    go_wp2_with fail
    have hbw1 : bx + 3 ≤ W1.heap.size := by have := HW.out; have := HW3.out; have := HF1.out.size; omega
    refine (writeStringW_any (bx + 3) b (keyL (N.reverse.take k)) (stepT r) W1 (HI.out.1.fr HF1.out (fun k e => e.elim)) hbw1 (by have := HKL.out; have := HSL.out; omega)).mono ?_
    rintro e W2 ⟨⟨v3, rfl⟩, hB2, f2⟩
    have HF2 := hid f2; have HB2 := hid hB2; have HBW := hid hbw1
    clear f2 hB2 hbw1
    go_wp2_with fail
    refine wpIn_region_plain (by rfl) (fun ⟨_, _, h⟩ => h) ?_
    go_wp2_with fail
    have H0 := writeByteW_any (bx + 3) b (keyL (N.reverse.take k) ++ stepT r) 0 W2 HB2.out (Nat.le_trans HBW.out HF2.out.size) (by rw [List.length_append]; have := HKL.out; have := HSL.out; omega)
    rw [show (((0 : UInt8).toNat : Nat) : Int) = 0 from rfl] at H0
    refine H0.mono ?_
    rintro e W3 ⟨⟨v4, rfl⟩, hB3, f3⟩
    have HF4 := hid f3; have HB4 := hid hB3
    clear f3 hB3 H0
    go_wp2_with fail
    have hf : Fr (BDm (bx + 3) b) W W3 := (HF1.out.no.trans' HF2.out).trans' HF4.out
    refine ⟨KP_fr hf fun i hi e => ?_, ?_, HI.out.2.trans' hf⟩
    · have := HNM.out
      have := HW3.out
      rcases e with e | e <;> omega
    · rw [HTK.out, keyL_snoc]
      exact HB4.out
  · intro W hI hK
    rw [yb_length, show N.length = N.reverse.length by simp] at hI
    have hI1 := hI.1
    rw [List.take_length] at hI1
    have HI1 := hid hI1; have HI2 := hid hI.2; have HK := hid hK
    have HSW := hid (show b ≤ W.heap.size by have := hI.2.size; have := HNM.out; omega)
    clear hI hK hI1 hseq
    refine hid ?_
    go_wp2_with fail
    refine (builderStringK b b _ W (HI1.out.build b (Nat.le_refl _)) HSW.out).mono ?_
    rintro e W1 ⟨rfl, f1, hk1⟩
    have HF4 := hid f1
    have HK1 := hid (hk1 _ _ HK.out)
    clear f1 hk1
    go_wp2_with fail
    refine marks_tmp rfl HK1.out rfl _ rfl ?_
    intro w' hf'
    refine ⟨rfl, ?_⟩
    have h1 := HF3.out.trans HI2.out (fun i e => .inr (by have := HNM.out; have e : i = b ∨ bx + 3 ≤ i := e; omega))
    have h2 := h1.trans HF4.out (fun i e => .inr (by have e : b ≤ i := e; omega))
    exact h2.trans hf' (fun i e => .inr (by have e : i = w3.heap.size := e; have := HNM.out; omega))
end Go.Proofs.YthjmkfpdbbfcpaaGreatDoor.DN
