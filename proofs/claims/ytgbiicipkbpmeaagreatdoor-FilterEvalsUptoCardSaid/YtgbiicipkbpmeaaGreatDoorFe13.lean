/-
  Part 13 of the proof: DnPr, DnKy, ScT, ScU, ScO, ScQ.
-/
import Derived.Test.YtgbiicipkbpmeaaGreatDoorFe12
import Derived.Test.YtgbiicipkbpmeaaGreatDoorFe04
import Derived.Shelf.Strings.BuilderK
import Derived.Test.YtgbiicipkbpmeaaGreatDoorFe03
import Derived.Test.YtgbiicipkbpmeaaGreatDoorFe05
import Derived.Test.YtgbiicipkbpmeaaGreatDoorFe06
import Derived.Lib.AtoiAllCases
import Derived.Test.YtgbiicipkbpmeaaGreatDoorFe11
import Derived.Test.YtgbiicipkbpmeaaGreatDoorFe08
import Derived.Test.YtgbiicipkbpmeaaGreatDoorFe02
set_option linter.unusedSimpArgs false
set_option linter.unusedVariables false
namespace Go.Proofs.YtgbiicipkbpmeaaGreatDoor.DN
set_option maxRecDepth 100000
set_option maxHeartbeats 128000000
open Go.RowKit K BE
theorem joinB_len {sep : B} {m : Nat} : ∀ (L : List B), (∀ x ∈ L, x.length ≤ m) → (joinB sep L).length ≤ L.length * (m + sep.length)
 | [], _ => by simp [joinB]
 | [a], h => by
  have := h a (by simp)
  show a.length ≤ 1 * _
  omega
 | a :: b :: r, h => by
  have h1 := h a (by simp)
  have h2 := joinB_len (sep := sep) (b :: r) (fun x hx => h x (by simp [hx]))
  simp only [joinB, List.length_append, List.length_cons] at h2 ⊢
  have e : (r.length + 1 + 1) * (m + sep.length) = (r.length + 1) * (m + sep.length) + (m + sep.length) := by rw [Nat.add_mul]; omega
  rw [e]
  omega
theorem avaT_le {a : Av} (h : AvB 1048576 a) : (avaT a).length ≤ 4194305 := by
 have h1 := (valFrom_len a.2 true).2
 obtain ⟨h2, h3⟩ := h
 simp only [avaT, valT, List.length_append, List.length_singleton]
 omega
theorem stepT_le {r : Rd} (h : RdB 1048576 r) (hr : r.length ≤ 4) : (stepT r).length ≤ 16777224 := by
 have := joinB_len (sep := [43]) (m := 4194305) (r.map avaT) (fun x hx => by
  obtain ⟨a, ha, rfl⟩ := List.mem_map.1 hx
  exact avaT_le (h.2 a ha))
 rw [List.length_map] at this
 have h2 : r.length * (4194305 + [43].length) ≤ 4 * (4194305 + 1) := Nat.mul_le_mul_right _ hr
 exact Nat.le_trans this (Nat.le_trans h2 (by decide))
theorem avaText_any (x : Av) (hx : AvB 1048576 x) (w : World) : Calls Tryz.prog 158 #[.agg #[.string (sb x.1), .string (sb x.2)]] w fun e w' => e = .returned (.string (sb (avaT x))) ∧ Fr No w w' := by
 obtain ⟨t, v⟩ := x
 have HB := hid hx
 simp only at HB ⊢
 clear hx
 go_enter Tryz.func158, Tryz.ntmps158
 go_wp2_with (first
  | ((with_reducible refine K.atO (.box 191 _) ?_); refine wpL_box rfl _ _ rfl _ rfl [.string (sb t), .string (sb v)] rfl ?_; intro w1 HB1 HF1 HS1))
 obtain ⟨g, hg⟩ : ∃ g, w.heap.size = g := ⟨_, rfl⟩
 rw [hg] at HB1 ⊢
 have c0 : w1.cell? ⟨g, 0, none⟩ = some (.string (sb t)) := HB1.out.cell 0
 have c1 : w1.cell? ⟨g, 1, none⟩ = some (.string (sb v)) := HB1.out.cell 1
 have hold : Facts.hold [(1, fun w' => w'.cell? ⟨g, 0, none⟩ = some (.string (sb t))), (4, fun w' => w'.cell? ⟨g, 1, none⟩ = some (.string (sb v)))] w1.drew := Facts.cons_hold c0 (Facts.cons_hold c1 (Facts.nil_hold _))
 refine wpD_region hold (by kernel_rfl) 8 rfl ?_
 (refine K.pl 0 (v := ?_) rfl ?_ ?_; rotate_left; (intro; go_simp; try with_reducible rfl); simp only [K.pu])
 (refine K.pl 3 (v := ?_) rfl ?_ ?_; rotate_left; (intro; go_simp; try with_reducible rfl); simp only [K.pu])
 (refine K.tk 1 _ rfl K.m0 (v := ?_) ?_ ?_; rotate_left; (intro _ _hw; go_simp; try with_reducible rfl); simp only [K.pu])
 (refine K.tk 4 _ rfl K.m1 (v := ?_) ?_ ?_; rotate_left; (intro _ _hw; go_simp; try with_reducible rfl); simp only [K.pu])
 (refine K.pl 2 (v := (.string (sb (t ++ [61])))) rfl ?_ ?_; (intro _w; exact exec_addS _ _ _ rfl t [61] rfl rfl (by have := HB.out.1; simp only [List.length_singleton] at *; omega) _ rfl _w); simp only [K.pu])
 clear hold
 refine K.on 5 [(1, fun w' => w'.cell? ⟨g, 0, none⟩ = some (.string (sb t)))] rfl (fun K5 hK5 => ?_)
 refine wp_call _ _ _ rfl 195 [] rfl (fun vs w => by kernel_rfl) [.string (sb v)] (by rfl) ?_
 refine (valueText_any v (by have := HB.out.2; simp only at this; omega) w1.drew).mono ?_
 rintro e w2 ⟨rfl, f2⟩
 have c02 : w2.cell? ⟨g, 0, none⟩ = some (.string (sb t)) := f2.cell (show w1.drew.cell? _ = _ from c0) id
 have HF2 := hid (HF1.out.trans' ((Fr.refl No w1).drew.trans' f2))
 refine ⟨_, rfl, hK5 _ _ (Facts.cons_hold c02 (Facts.nil_hold _)) ?_⟩
 clear hK5 K5 f2
 simp only [K.pu]
 have hold : Facts.hold [(1, fun w' => w'.cell? ⟨g, 0, none⟩ = some (.string (sb t)))] w2 := Facts.cons_hold c02 (Facts.nil_hold _)
 (refine K.pl 6 (v := (.string (sb (t ++ [61] ++ valT v)))) rfl ?_ ?_; (intro _w; exact exec_addS _ _ _ rfl (t ++ [61]) (valT v) rfl rfl (by have := HB.out; have h2 := (valFrom_len v true).2; unfold AvB at this; simp only [List.length_append, List.length_singleton, valT] at *; omega) _ rfl _w); simp only [K.pu])
 (refine K.pl 7 (v := ?_) rfl ?_ ?_; rotate_left; (intro; go_simp; try with_reducible rfl); simp only [K.pu])
 clear hold
 refine wpD_done (by kernel_rfl) ?_ _
 go_wp2_with fail
 go_ret
 exact ⟨by show Ending.returned (.string (sb (t ++ 61 :: valT v))) = _; simp [avaT], HF2.out⟩
theorem joinedAv_any (E : Nat → Prop) (v : Value) (r : Rd) (w : World) (h : RdIn E w v r) (hb : RdB 1048576 r) (hr : r.length ≤ 4) :
  Calls Tryz.prog 157 #[v, .string (sb [43]), .func (.func 158) #[] #[]] w fun e w' => e = .returned (.string (sb (stepT r))) ∧ Fr No w w' := by
 obtain ⟨a, cp, rfl, -, hl0⟩ := h.form
 have HX := hid h
 have HL := hid (stepT_le hb hr)
 have HB := hid hb
 obtain ⟨n, hn⟩ : ∃ n, r.length = n := ⟨_, rfl⟩
 rw [hn] at HX hr ⊢
 have HNN := hid hn
 have hni : (n : Int) ≤ 4 := by omega
 rw [show sb [43] = (⟨#[43]⟩ : ByteArray) from rfl]
 clear h hb hn hl0
 go_enter Tryz.func157, Tryz.ntmps157
 go_wp2_with fail
 go_loopw [7, 12] (fun sv iv wr => ∃ (i : Nat), iv = .int .i64 i ∧ i ≤ n ∧ Hid (OwR 9 1 w wr sv i (strs ((r.take i).map avaT)))) (fun _ iv _ => n - (intOf iv).toNat)
 case atStart => exact ⟨0, rfl, Nat.zero_le _, hid (owR_nil (Fr.refl _ _))⟩
 case round =>
  obtain ⟨i, rfl, hi, HO⟩ := hrel
  obtain ⟨va, vc, rfl⟩ := HO.out.1
  by_cases hlt : i < n
  ·obtain ⟨x, hx⟩ : ∃ x, r[i]? = some x := ⟨_, List.getElem?_eq_getElem (by rw [HNN.out]; exact hlt)⟩
   have hlti : (i : Int) < n := by omega
   have hi0 : (0 : Int) ≤ i := by omega
   obtain ⟨g, o, cq, c, e1, -, hgw, hrr, hc, hxa⟩ := (RdIn.no HX.out HO.out.fr).get hx
   rw [HNN.out] at e1
   obtain ⟨rfl, rfl⟩ := K.sj e1
   obtain ⟨rfl, hs1, hs2⟩ := hxa
   have HRR := hid hrr
   have HXB : Hid (AvB 1048576 x) := hid (HB.out.2 x (List.mem_of_getElem? hx))
   have HNX : Hid (strs ((r.take (i + 1)).map avaT) = strs ((r.take i).map avaT) ++ [.string (sb (avaT x))]) := hid (by
    rw [List.take_add_one, hx]
    simp [strs])
   have HLT := hid hlt
   clear hc hgw hrr hs1 hs2 hx hlt
   go_wp2_with (first
    | ((with_reducible refine K.atO (.load 191 _) ?_); (fail_if_success (have := HB2)); refine wpL_load rfl _ _ rfl g (o + i * 2) rfl [.string (sb x.1), .string (sb x.2)] _ HRR.out rfl rfl infoAv ?_)
    | ((with_reducible refine K.atO (.alloc 191) ?_); refine wpList_plain rfl fun K1 hK1 => ?_; refine wp_alloc 191 rfl (.agg #[.string ⟨#[]⟩, .string ⟨#[]⟩]) (fun _ => by kernel_rfl) [.string ⟨#[]⟩, .string ⟨#[]⟩] rfl ?_; intro w2 HB2 HF2 HS2; refine hK1 _ _ ?_; clear hK1 K1)
    | ((with_reducible refine K.atO (.store 191 _ _) ?_); refine wpL_store rfl _ _ _ rfl wr.heap.size 0 [.string (sb x.1), .string (sb x.2)] rfl rfl 191 _ HB2.out (by simp) infoAv (by simp [Value.oneCell']) ?_; intro w3 HB3 HF3 HS3)
    | ((with_reducible refine K.atO (.load 191 _) ?_); refine wpL_load rfl _ _ rfl wr.heap.size 0 rfl [.string (sb x.1), .string (sb x.2)] _ (by simpa [spl] using HB3.out.range 0 [.string (sb x.1), .string (sb x.2)] rfl) rfl rfl infoAv ?_))
   refine (avaText_any x HXB.out w3).mono ?_
   rintro e w4 ⟨rfl, f4⟩
   have HF4 : Hid (Fr No wr w4) := hid ((HF2.out.trans HF3.out fun k e => .inr (by have e : k = wr.heap.size := e; omega)).trans' f4)
   have HO4 := hid (OwR.no HO.out HF4.out)
   clear f4
   go_wp2_with (first
    | ((with_reducible refine K.atO (.buildSlice 37 _ _) ?_); refine wpL_app1 rfl rfl _ _ _ 37 9 rfl rfl Tryz.underlying37 infoStr rfl (by decide) (by decide) HO4.out (.string (sb (avaT x))) [.string (sb (avaT x))] rfl rfl rfl (by simp [Value.oneCell']) (fun _ => rfl) (fun _ => rfl) (by omega) (by omega) ?_; intro q a5 c5 w5 HO5 HF5))
   refine ⟨⟨i + 1, by go_num, HLT.out, hid (by rw [HNX.out]; exact HO5.out)⟩, ?_⟩
   have := HLT.out
   simp [intOf]; omega
  ·obtain rfl : i = n := by omega
   obtain ⟨a1, c1, e1, hcap, h5⟩ := HO.out.reads
   obtain ⟨rfl, rfl⟩ := K.sj e1
   have hall : (r.take i).map avaT = r.map avaT := by rw [← HNN.out, List.take_length]
   rw [hall] at h5
   have hlm : (r.map avaT).length = i := by rw [List.length_map]; exact HNN.out
   have HJ := hid (join_any (fun _ => True) (.slice va i vc) (r.map avaT) [43] wr ⟨va, vc, by rw [hlm], by rw [hlm]; exact hcap, by
    rcases h5 with h0 | ⟨g, h1, h2, h3, h4⟩
    ·exact .inl (List.eq_nil_of_length_eq_zero (by omega))
    ·exact .inr ⟨g, 0, h1, h3, h4⟩⟩ (by omega) (Nat.le_trans HL.out (by decide)))
   clear hcap h5 hall hlm hi hlt
   go_wp2_with fail
   refine HJ.out.mono ?_
   rintro e w6 ⟨rfl, f6⟩
   have HF6 := hid (HO.out.fr.trans' f6)
   clear f6
   go_wp2_with fail
   go_ret
   exact ⟨rfl, HF6.out⟩
theorem stepText_any (E : Nat → Prop) (v : Value) (r : Rd) (w : World) (h : RdIn E w v r) (hb : RdB 1048576 r) (hr : r.length ≤ 4) :
  Calls Tryz.prog 120 #[v] w fun e w' => e = .returned (.string (sb (stepT r))) ∧ Fr No w w' := by
 have H := hid (joinedAv_any E v r w h hb hr)
 obtain ⟨a, cp, rfl, -, -⟩ := h.form
 clear h hb hr
 go_enter Tryz.func120, Tryz.ntmps120
 go_wp2_with fail
 refine H.out.mono ?_
 rintro e w1 ⟨rfl, f1⟩
 have HF := hid f1
 clear f1
 go_wp2_with fail
 go_ret
 exact ⟨rfl, HF.out⟩
theorem marks_tmp {P : Program} {fn : Func} {R : Ending → World → Prop} {a : Act} {w : World} {D p : Nat} (hd : a.defers = [{ target := .collected D, args := #[] }]) (hK : w.heap[D]? = some (.deferred (some []))) (hr : fn.results = #[.tmp p]) (v : Value) (hv : a.tmps.getD p undef = v)
  (h : ∀ w', Fr (fun k => k = D) w w' → R (.returned v) w') : bodyPostM Fence.wide 3 P fn R .ret a w := by
 show LeavesInM Fence.wide 3 P fn a.tmps R a.defers .returning w
 rw [hd]
 refine ⟨by simp, .inl ⟨D, _, rfl, run_takeDeferred hK, ?_⟩⟩
 refine ⟨v, ?_, h _ (fr_put D (.deferred none))⟩
 have := results_tmp hr a.tmps P (w.putObj D (.deferred none))
 rw [hv] at this
 exact this
theorem normR_len (r : Rd) : (normR r).length = r.length := by simp [normR, srt_len]
theorem normR_b {k : Nat} {r : Rd} (h : RdB k r) : RdB k (normR r) := by
 refine ⟨by rw [normR_len]; exact h.1, fun x hx => ?_⟩
 obtain ⟨a, ha, rfl⟩ := List.mem_map.1 (srt_mem.1 hx)
 have := h.2 a ha
 exact ⟨by show (low a.1).length ≤ k; rw [low_length]; exact this.1, Nat.le_trans (fold_len a.2) this.2⟩
theorem norm_b {k : Nat} {n : Nm} (h : NmB k n) : NmB k (norm n) := by
 refine ⟨by rw [norm_length]; exact h.1, fun r hr => ?_⟩
 obtain ⟨q, hq, rfl⟩ := List.mem_map.1 hr
 exact normR_b (h.2 q hq)
theorem keyL_len {m : Nat} : ∀ {L : Nm}, (∀ r ∈ L, (stepT r).length ≤ m) → (keyL L).length ≤ L.length * (m + 1)
 | [], _ => by simp [keyL]
 | r :: L, h => by
  have ih := keyL_len (fun x hx => h x (List.mem_cons_of_mem _ hx))
  have h0 := h r List.mem_cons_self
  have e : keyL (r :: L) = stepT r ++ 0 :: keyL L := by simp [keyL]
  rw [e, List.length_append, List.length_cons, List.length_cons, Nat.add_mul]
  omega
theorem keyL_snoc (L : Nm) (r : Rd) : keyL (L ++ [r]) = keyL L ++ stepT r ++ [0] := by simp [keyL]
theorem nm_rows {E : Nat → Prop} {w : World} {u : Value} {N : Nm} (h : NmIn E w u N) : ∃ a cap vs, u = .slice a N.length cap ∧ N.length ≤ cap ∧ vs.length = N.length ∧ (N.length = 0 ∨ ∃ g o, a = some ⟨g, o, none⟩ ∧ E g ∧ g < w.heap.size ∧ w.rangeAt g o vs) ∧ ∀ j r, N[j]? = some r → RdIn E w (vs.getD j undef) r := by
 obtain ⟨a, cap, rfl, hc, -⟩ := h.form
 by_cases h0 : N.length = 0
 ·refine ⟨a, cap, List.replicate N.length undef, rfl, hc, by simp, .inl h0, fun j r hr => ?_⟩
  have := (List.getElem?_eq_some_iff.1 hr).1
  omega
 ·obtain ⟨x0, hx0⟩ : ∃ x, N[0]? = some x := ⟨_, List.getElem?_eq_getElem (by omega)⟩
  obtain ⟨g, o, cq, c, e1, hE, hgw, -, -, -⟩ := h.get hx0
  obtain ⟨rfl, rfl⟩ := K.sj e1
  have hall : ∀ j r, N[j]? = some r → ∃ v, w.cell? ⟨g, o + j, none⟩ = some v ∧ RdIn E w v r := fun j r hr => by
   obtain ⟨g', o', cq', c', e1, -, -, hrr, -, hxa⟩ := h.get hr
   simp only [Value.slice.injEq, true_and, Option.some.injEq, Addr.mk.injEq] at e1
   obtain ⟨⟨rfl, rfl, -⟩, rfl⟩ := e1
   obtain ⟨v, rfl, hv⟩ := hxa
   exact ⟨v, by have := hrr 0 v rfl; simpa using this, hv⟩
  refine ⟨_, cap, (List.range N.length).map fun j => (w.cell? ⟨g, o + j, none⟩).getD undef, rfl, hc, by simp, .inr ⟨g, o, rfl, hE, hgw, ?_⟩, fun j r hr => ?_⟩
  ·intro j v hj
   have hjl : j < N.length := by have := (List.getElem?_eq_some_iff.1 hj).1; simpa using this
   obtain ⟨v', hv', -⟩ := hall j _ (List.getElem?_eq_getElem hjl)
   simp [hjl, hv'] at hj
   rw [← hj]
   exact hv'
  ·have hjl := (List.getElem?_eq_some_iff.1 hr).1
   obtain ⟨v', hv', hr'⟩ := hall j r hr
   rw [List.getD_eq_getElem?_getD]
   simp [hjl, hv']
   exact hr'
theorem zeroBd : ∀ w, (zeroValue 170).run Tryz.prog w = .ok (.agg #[.pointer none, .slice none 0 0]) w := fun _ => by kernel_rfl
theorem builderStringK (base b : Nat) (l : B) (w : World) (h : Bld base b l w) (hb : base ≤ w.heap.size) :
  Calls Tryz.prog 122 #[.pointer (some ⟨b, 0, none⟩)] w fun e w' => e = .returned (.string (sb l)) ∧ Fr (fun k => base ≤ k) w w' ∧ ∀ (k : Nat) d, w.heap[k]? = some (Obj.deferred d) → w'.heap[k]? = some (Obj.deferred d) := by
 refine (Any.Builder_String_any_k lays169 extra156 base b l w (Lib.IsBuilderF.of h) hb).mono ?_
 rintro e w' ⟨rfl, -, h2, h3⟩
 refine ⟨rfl, below_fr' h2, fun k d hk => h3 k _ hk (fun e => ?_) (fun c fz e => by cases e)⟩
 obtain rfl : k = b := Option.some.inj e
 rcases h with h | h <;>
 ·obtain ⟨_, v, hv, _⟩ := h
  rw [hv] at hk
  cases hk
def KyI (w3 : World) (base b : Nat) (N : Nm) (k : Nat) (W : World) : Prop := BW base b (keyL (N.reverse.take k)) W ∧ Fr (BDm base b) w3 W
theorem key_any (E : Nat → Prop) (v : Value) (n : Nm) (w : World) (h : NmIn E w v n) (hb : NmB 1048576 n) (hs : Short n) (h16 : n.length ≤ 16) (h4 : ∀ r ∈ n, r.length ≤ 4) :
  Calls Tryz.prog 71 #[v] w fun e w' => e = .returned (.string (sb (key n))) ∧ Fr No w w' := by
 have HX := hid h; have HB := hid hb; have HSh := hid hs
 obtain ⟨N, hN⟩ : ∃ N, norm n = N := ⟨_, rfl⟩
 have HNE := hid hN
 have HNL : Hid (N.length ≤ 16 ∧ ∀ r ∈ N, r.length ≤ 4 ∧ RdB 1048576 r) := hid (by
  rw [← hN]
  refine ⟨by rw [norm_length]; exact h16, fun r hr => ⟨?_, (norm_b hb).2 r hr⟩⟩
  obtain ⟨q, hq, rfl⟩ := List.mem_map.1 hr
  rw [normR_len]
  exact h4 q hq)
 obtain ⟨va, vc, rfl, -, -⟩ := h.form
 rw [show key n = keyL N.reverse by rw [key_eq, hN]]
 generalize n.length = m at HX ⊢
 clear h hb hs h16 h4 hN
 refine calls_marks Tryz.func71 rfl ?_
 simp only [Tryz.ntmps71, List.size_toArray, List.length_cons, List.length_nil, Nat.reduceAdd, Nat.reduceSub, Array.replicate_succ, Array.replicate_zero, List.push_toArray, List.append_toArray, List.nil_append, List.cons_append]
 go_wp2_with (first
  | ((with_reducible refine K.atO (.alloc 170) ?_); refine wpL_alloc rfl _ rfl _ zeroBd [.pointer none, .slice none 0 0] rfl ?_; intro w1 HB1 F1 HS1; refine Hid.out ?_))
 have H1 := norm_any E _ n w1 (HX.out.no F1.out) HB.out HSh.out
 rw [HNE.out] at H1
 refine hid ?_
 go_wp2_with fail
 refine H1.mono ?_
 rintro e w2 ⟨u, rfl, hu, f2⟩
 obtain ⟨a, cap, vs, rfl, hcap, hvl, hvs, hvr⟩ := nm_rows hu
 refine hid ?_
 clear H1
 have HU := hid hu; have HF2 := hid (F1.out.trans' f2)
 have HF12 := hid f2
 clear hu f2
 go_wp2_with fail
 refine (backward_any _ rfl w2).mono ?_
 rintro e w3 ⟨rfl, hbx, f3, hs3⟩
 obtain ⟨bx, hbx0⟩ : ∃ x, w2.heap.size = x := ⟨_, rfl⟩
 obtain ⟨b, hb0⟩ : ∃ x, w.heap.size = x := ⟨_, rfl⟩
 rw [hbx0, hb0]
 rw [hbx0] at hbx hs3
 obtain ⟨g, o, hg, hgl⟩ : ∃ g o, (N.length = 0 ∨ (a = some ⟨g, o, none⟩ ∧ w3.rangeAt g o vs)) ∧ b < g ∧ g ≤ bx := by
  rcases hvs with h0 | ⟨g, o, h1, h2, h3, h4⟩
  ·exact ⟨bx, 0, .inl h0, by have := HS1.out; have := HF12.out.size; omega, Nat.le_refl _⟩
  ·exact ⟨g, o, .inr ⟨h1, f3.range h4 id⟩, by have := HS1.out; have h2 : w1.heap.size ≤ g := h2; omega, by omega⟩
 have hbb : b < bx := by omega
 have HNM := hid (show w3.heap.size = bx + 1 ∧ b < g ∧ g ≤ bx ∧ b < bx ∧ w1.heap.size = b + 1 from ⟨hs3, hgl.1, hgl.2, hbb, by have := HS1.out; omega⟩)
 have HROW : Hid (∀ j r, N[j]? = some r → RdIn (fun k => w1.heap.size ≤ k) w3 (vs.getD j undef) r ∧ (∀ (D : Nat → Prop) (A : World), True → Fr (BDm (bx + 3) b) w3 A → RdIn (fun k => w1.heap.size ≤ k) A (vs.getD j undef) r)) := hid fun j r hr => by
  have h1 := (hvr j r hr).no f3
  refine ⟨h1, fun D A _ hf => h1.fr hf fun i hi hl e => ?_⟩
  have hi : w1.heap.size ≤ i := hi
  have := HNM.out
  rcases e with e | e <;> omega
 have HB3 : Hid (Blk w3 b 170 [.pointer none, .slice none 0 0]) := hid (by rw [← hb0]; exact HB1.out.fr (HF12.out.trans' f3) id)
 have HF3 := hid (HF2.out.trans' f3)
 have HW3 := hid hs3
 have hseq := backward_seq bx g o N.length cap a vs (by have := HNL.out.1; omega) hcap hvl w3 hbx hg
 refine hid ?_
 clear HB1 F1 HS1 HU HF2 HF12 hvs hvr hbx f3 hs3 hg hgl hbb
 go_wp2_with fail
 refine wp_rangePb (gf := 154) (lb := #[.pointer (some ⟨bx, 0, none⟩)]) rfl (fun vs w => by kernel_rfl) (bx := fun i => i = bx ∨ i = g) (by intro i hi; have := HNM.out; omega)
  hseq (fun k x hx => ⟨_, _, (yb_at hx).2⟩) (by simp)
  (KyI w3 (bx + 3) b N) (fun _ _ => False) ?_ (fun _ _ _ h _ => h.elim) ?_ ?_ ?_ (fun _ _ h _ => h.elim)
 ·intro k A B h hf
  exact ⟨h.1.fr hf fun i e => by have := HNM.out; omega, h.2.trans hf fun i e => .inr (by omega)⟩
 ·exact ⟨⟨by have := HNM.out; omega, _, _, HB3.out, .inl rfl, World.ownsRow_nil _ _ _ _⟩, Fr.refl _ _⟩
 ·rintro l k v0 v1 W hx hW hI
  obtain ⟨hk, hx'⟩ := yb_at hx
  obtain ⟨v2, hv2⟩ : ∃ v2, vs.getD (N.length - 1 - k) undef = v2 := ⟨_, rfl⟩
  rw [hv2] at hx'
  obtain ⟨rfl, rfl⟩ : v0 = .int .i64 ((N.length - 1 - k : Nat) : Int) ∧ v1 = v2 := by simpa using hx'
  obtain ⟨r, hr⟩ : ∃ r, N[N.length - 1 - k]? = some r := ⟨_, List.getElem?_eq_getElem (by omega)⟩
  have hrm : r ∈ N := List.mem_of_getElem? hr
  have HR := (HROW.out _ r hr).2 (fun _ => True) W trivial hI.2
  rw [hv2] at HR
  have HST := hid (stepText_any _ _ r W HR (HNL.out.2 r hrm).2 (HNL.out.2 r hrm).1)
  have HSL := hid (stepT_le (HNL.out.2 r hrm).2 (HNL.out.2 r hrm).1)
  have HTK : Hid (N.reverse.take (k + 1) = N.reverse.take k ++ [r]) := hid (by
   rw [List.take_add_one, List.getElem?_reverse hk, hr]
   rfl)
  have HKL : Hid ((keyL (N.reverse.take k)).length ≤ 268435600) := hid (by
   have h1 := keyL_len (L := N.reverse.take k) (m := 16777224) (fun q hq => stepT_le (HNL.out.2 q (List.mem_reverse.1 (List.mem_of_mem_take hq))).2 (HNL.out.2 q (List.mem_reverse.1 (List.mem_of_mem_take hq))).1)
   have h2 : (N.reverse.take k).length ≤ 16 := by rw [List.length_take, List.length_reverse]; have := HNL.out.1; omega
   have h3 := Nat.mul_le_mul_right (16777224 + 1) h2
   omega)
  have HI := hid hI; have HW := hid hW
  obtain ⟨ra, rc, rfl, -, -⟩ := HR.form
  obtain ⟨i, hi⟩ : ∃ i : Int, ((N.length - 1 - k : Nat) : Int) = i := ⟨_, rfl⟩
  rw [hi]
  clear hx' hx hk hr hrm HR hI hW hi hseq hv2
  simp only [List.setIfInBounds_toArray, List.set_cons_zero, List.set_cons_succ]
  refine wpIn_block ?_
  refine wpIn_seq ?_
  refine wpIn_region_plain (by rfl) (fun ⟨_, _, h⟩ => h) ?_
  go_wp2_with fail
  refine HST.out.mono ?_
  rintro e W1 ⟨rfl, f1⟩
  have HF1 := hid f1
  clear f1
  go_wp2_with fail
  have hbw1 : bx + 3 ≤ W1.heap.size := by have := HW.out; have := HW3.out; have := HF1.out.size; omega
  refine (writeStringW_any (bx + 3) b (keyL (N.reverse.take k)) (stepT r) W1 (HI.out.1.fr HF1.out (fun k e => e.elim)) hbw1 (by have := HKL.out; have := HSL.out; omega)).mono ?_
  rintro e W2 ⟨⟨v3, rfl⟩, hB2, f2⟩
  have HF2 := hid f2; have HB2 := hid hB2; have HBW := hid hbw1
  clear f2 hB2 hbw1
  go_wp2_with fail
  refine wpIn_region_plain (by rfl) (fun ⟨_, _, h⟩ => h) ?_
  go_wp2_with fail
  have H0 := writeByteW_any (bx + 3) b (keyL (N.reverse.take k) ++ stepT r) 0 W2 HB2.out (Nat.le_trans HBW.out HF2.out.size) (by rw [List.length_append]; have := HKL.out; have := HSL.out; omega)
  rw [show (((0 : UInt8).toNat : Nat) : Int) = 0 from rfl] at H0
  refine H0.mono ?_
  rintro e W3 ⟨⟨v4, rfl⟩, hB3, f3⟩
  have HF4 := hid f3; have HB4 := hid hB3
  clear f3 hB3 H0
  go_wp2_with fail
  have hf : Fr (BDm (bx + 3) b) W W3 := (HF1.out.no.trans' HF2.out).trans' HF4.out
  refine ⟨KP_fr hf fun i hi e => ?_, ?_, HI.out.2.trans' hf⟩
  ·have := HNM.out
   have := HW3.out
   rcases e with e | e <;> omega
  ·rw [HTK.out, keyL_snoc]
   exact HB4.out
 ·intro W hI hK
  rw [yb_length, show N.length = N.reverse.length by simp] at hI
  have hI1 := hI.1
  rw [List.take_length] at hI1
  have HI1 := hid hI1; have HI2 := hid hI.2; have HK := hid hK
  have HSW := hid (show b ≤ W.heap.size by have := hI.2.size; have := HNM.out; omega)
  clear hI hK hI1 hseq
  refine hid ?_
  go_wp2_with fail
  refine (builderStringK b b _ W (HI1.out.build b (Nat.le_refl _)) HSW.out).mono ?_
  rintro e W1 ⟨rfl, f1, hk1⟩
  have HF4 := hid f1
  have HK1 := hid (hk1 _ _ HK.out)
  clear f1 hk1
  go_wp2_with fail
  refine marks_tmp rfl HK1.out rfl _ rfl ?_
  intro w' hf'
  refine ⟨rfl, ?_⟩
  have h1 := HF3.out.trans HI2.out (fun i e => .inr (by have := HNM.out; have e : i = b ∨ bx + 3 ≤ i := e; omega))
  have h2 := h1.trans HF4.out (fun i e => .inr (by have e : b ≤ i := e; omega))
  exact h2.trans hf' (fun i e => .inr (by have e : i = w3.heap.size := e; have := HNM.out; omega))
end Go.Proofs.YtgbiicipkbpmeaaGreatDoor.DN
namespace Go.Proofs.YtgbiicipkbpmeaaGreatDoor.SC
set_option maxRecDepth 100000
set_option maxHeartbeats 128000000
open Go.RowKit K BE DN
def NumR (v : B) (e : Ending) : Prop := ∃ n : Int, e = .returned (.tuple #[.int .i64 n, .bool (numV v).isSome]) ∧ ∀ m, numV v = some m → n = m
theorem numV_no {v : B} (h : ∀ m, Lib.atoiAll v = .ok m → ¬ (Lib.itoa m = v ∧ -999999999 ≤ m ∧ m ≤ 999999999)) : numV v = none := by
 cases hn : numV v with
 | none => rfl
 | some m =>
  obtain ⟨h1, h2⟩ := num_back hn
  exact absurd h2 (h m h1)
theorem readNumber_any (v : B) (hz : Sz v) (w : World) (hG : Gs w) : Calls Tryz.prog 39 #[.string (sb v)] w fun e w' => NumR v e ∧ Fr No w w' := by
 have HZ := hid hz; have HG := hid hG
 clear hz hG
 by_cases hok : ∃ m, Lib.atoiAll v = .ok m
 ·obtain ⟨m, hm⟩ := hok
  obtain ⟨hb1, hb2⟩ := Lib.atoiAll_bounds hm
  have HM := hid hm; have HB := hid (show -9223372036854775808 ≤ m ∧ m ≤ 9223372036854775807 from ⟨hb1, hb2⟩)
  have HINJ : Hid (∀ k, Lib.atoiAll v = .ok k → k = m) := hid (fun k hk => by rw [hm] at hk; injection hk with hk; exact hk.symm)
  clear hm hb1 hb2
  go_enter Tryz.func39, Tryz.ntmps39
  go_wp2_with fail
  refine (atoi_ok v HZ.out m HM.out w).mono ?_
  rintro e w1 ⟨rfl, f1⟩
  have HF1 := hid f1
  clear f1
  go_wp2_with fail
  refine (itoa_any m HB.out.1 HB.out.2 w1 (HG.out.no HF1.out)).mono ?_
  rintro e w2 ⟨rfl, f2⟩
  have HF2 := hid (HF1.out.trans' f2)
  clear f2
  obtain ⟨P, hP⟩ : ∃ P, decide (Lib.itoa m = v) = P := ⟨_, rfl⟩
  have HP := hid hP
  clear hP
  cases P with
  | false =>
   have hn : numV v = none := numV_no (fun k hk h => by rw [HINJ.out k hk] at h; exact of_decide_eq_false HP.out h.1)
   have HN := hid hn
   clear hn
   go_wp2_with (first
    | ((with_reducible refine K.atO (.binOp .eql 9 _ _ _) ?_); refine wpL_valZ rfl (.bool false) (by rw [← HP.out]; exact exec_eqS _ _ _ rfl (Lib.itoa m) v rfl rfl w2) ?_))
   go_ret2
   exact ⟨⟨m, by rw [HN.out]; rfl, fun k hk => by rw [HN.out] at hk; cases hk⟩, HF2.out⟩
  | true =>
   by_cases h1 : -999999999 ≤ m
   case neg =>
    have HN := hid (numV_no (v := v) (fun k hk h => by rw [HINJ.out k hk] at h; exact h1 h.2.1))
    have g1 : m < -999999999 := by omega
    have g1b : decide (-999999999 ≤ m) = false := decide_eq_false h1
    clear h1
    go_wp2_with (first
     | ((with_reducible refine K.atO (.binOp .eql 9 _ _ _) ?_); refine wpL_valZ rfl (.bool true) (by rw [← HP.out]; exact exec_eqS _ _ _ rfl (Lib.itoa m) v rfl rfl w2) ?_))
    go_ret2
    exact ⟨⟨m, by rw [HN.out]; rfl, fun k hk => by rw [HN.out] at hk; cases hk⟩, HF2.out⟩
   by_cases h2 : m ≤ 999999999
   case neg =>
    have HN := hid (numV_no (v := v) (fun k hk h => by rw [HINJ.out k hk] at h; exact h2 h.2.2))
    have g1b : decide (-999999999 ≤ m) = true := decide_eq_true h1
    have g2b : decide (m ≤ 999999999) = false := decide_eq_false h2
    clear h2
    go_wp2_with (first
     | ((with_reducible refine K.atO (.binOp .eql 9 _ _ _) ?_); refine wpL_valZ rfl (.bool true) (by rw [← HP.out]; exact exec_eqS _ _ _ rfl (Lib.itoa m) v rfl rfl w2) ?_))
    go_ret2
    exact ⟨⟨m, by rw [HN.out]; rfl, fun k hk => by rw [HN.out] at hk; cases hk⟩, HF2.out⟩
   have HN := hid (num_ok HM.out (of_decide_eq_true HP.out) h1 h2)
   have g1b : decide (-999999999 ≤ m) = true := decide_eq_true h1
   have g2b : decide (m ≤ 999999999) = true := decide_eq_true h2
   go_wp2_with (first
    | ((with_reducible refine K.atO (.binOp .eql 9 _ _ _) ?_); refine wpL_valZ rfl (.bool true) (by rw [← HP.out]; exact exec_eqS _ _ _ rfl (Lib.itoa m) v rfl rfl w2) ?_))
   go_ret2
   exact ⟨⟨m, by rw [HN.out]; rfl, fun k hk => by rw [HN.out] at hk; cases hk; rfl⟩, HF2.out⟩
 ·have HN := hid (numV_no (v := v) (fun m hm => absurd ⟨m, hm⟩ hok))
  have HB := hid (atoi_bad v HZ.out (fun m hm => hok ⟨m, hm⟩) w HG.out)
  clear hok
  go_enter Tryz.func39, Tryz.ntmps39
  go_wp2_with fail
  refine HB.out.mono ?_
  rintro e w1 ⟨⟨m, t, u, rfl⟩, f1⟩
  have HF1 := hid f1
  clear f1 HB
  go_wp2_with fail
  go_ret2
  exact ⟨⟨m, by rw [HN.out]; rfl, fun k hk => by rw [HN.out] at hk; cases hk⟩, HF1.out⟩
def NrmR (o : Option B) (e : Ending) : Prop := ∃ x : B, e = .returned (.tuple #[.string (sb x), .bool o.isSome]) ∧ Sz x ∧ ∀ y, o = some y → x = y
theorem normTruth_any (v : B) (hz : Sz v) (w : World) : Calls Tryz.prog 72 #[.string (sb v)] w fun e w' => NrmR (truth v) e ∧ Fr No w w' := by
 have HZ := hid hz
 clear hz
 go_enter Tryz.func72, Tryz.ntmps72
 go_wp2_with fail
 refine (slower_any v HZ.out w).mono ?_
 rintro e w1 ⟨rfl, f1⟩
 have HF1 := hid f1
 clear f1
 obtain ⟨P, hP⟩ : ∃ P, decide (low v = tTrue) = P := ⟨_, rfl⟩
 obtain ⟨P2, hP2⟩ : ∃ P, decide (low v = tFalse) = P := ⟨_, rfl⟩
 have HP := hid hP; have HP2 := hid hP2
 clear hP hP2
 cases P with
 | true =>
  have HN : Hid (truth v = some [84, 82, 85, 69]) := hid (by unfold truth; rw [if_pos (of_decide_eq_true HP.out)])
  go_wp2_with (first
   | ((with_reducible refine K.atO (.binOp .eql 9 _ _ _) ?_); refine wpL_valZ rfl (.bool true) (by rw [← HP.out]; exact exec_eqS _ _ _ rfl (low v) tTrue rfl rfl w1) ?_))
  go_ret2
  exact ⟨⟨[84, 82, 85, 69], by rw [HN.out]; rfl, by unfold Sz; decide, fun k hk => by rw [HN.out] at hk; cases hk; rfl⟩, HF1.out⟩
 | false =>
  cases P2 with
  | true =>
   have HN : Hid (truth v = some [70, 65, 76, 83, 69]) := hid (by unfold truth; rw [if_neg (of_decide_eq_false HP.out), if_pos (of_decide_eq_true HP2.out)])
   go_wp2_with (first
    | ((with_reducible refine K.atO (.binOp .eql 9 _ _ _) ?_); (fail_if_success (have := HQ1)); refine wpL_valZ rfl (.bool false) (by rw [← HP.out]; exact exec_eqS _ _ _ rfl (low v) tTrue rfl rfl w1) ?_; have HQ1 := HP)
    | ((with_reducible refine K.atO (.binOp .eql 9 _ _ _) ?_); refine wpL_valZ rfl (.bool true) (by rw [← HP2.out]; exact exec_eqS _ _ _ rfl (low v) tFalse rfl rfl w1) ?_))
   go_ret2
   exact ⟨⟨[70, 65, 76, 83, 69], by rw [HN.out]; rfl, by unfold Sz; decide, fun k hk => by rw [HN.out] at hk; cases hk; rfl⟩, HF1.out⟩
  | false =>
   have HN : Hid (truth v = none) := hid (by unfold truth; rw [if_neg (of_decide_eq_false HP.out), if_neg (of_decide_eq_false HP2.out)])
   go_wp2_with (first
    | ((with_reducible refine K.atO (.binOp .eql 9 _ _ _) ?_); (fail_if_success (have := HQ1)); refine wpL_valZ rfl (.bool false) (by rw [← HP.out]; exact exec_eqS _ _ _ rfl (low v) tTrue rfl rfl w1) ?_; have HQ1 := HP)
    | ((with_reducible refine K.atO (.binOp .eql 9 _ _ _) ?_); refine wpL_valZ rfl (.bool false) (by rw [← HP2.out]; exact exec_eqS _ _ _ rfl (low v) tFalse rfl rfl w1) ?_))
   go_ret2
   exact ⟨⟨[], by rw [HN.out]; rfl, by unfold Sz; decide, fun k hk => by rw [HN.out] at hk; cases hk⟩, HF1.out⟩
theorem parse_all (s : B) : NmB 1048576 (parse s).1 ∧ Short (parse s).1 ∧ (parse s).1.length ≤ 16 ∧ ∀ r ∈ (parse s).1, r.length ≤ 4 := by
 by_cases h : (parse s).2 = 0
 ·exact parse_b (s := s) (x := (parse s).1) (by rw [← h])
 ·have : (parse s).1 = [] := by
   unfold parse at h ⊢
   split
   ·rfl
   ·rename_i h4
    rw [if_neg h4] at h
    split
    ·rfl
    ·rename_i n hr
     rw [hr] at h
     simp only at h
     split
     ·rename_i hb
      rw [if_pos hb] at h
      exact absurd rfl h
     ·rfl
  rw [this]
  exact ⟨⟨by simp, fun r hr => by cases hr⟩, (fun r hr => by cases hr), by simp, fun r hr => by cases hr⟩
theorem key_sz (s : B) : Sz (key (parse s).1) := by
 obtain ⟨h1, -, h3, h4⟩ := parse_all s
 have hn := norm_b h1
 have hl : (norm (parse s).1).length ≤ 16 := by rw [norm_length]; exact h3
 have h5 : ∀ r ∈ (norm (parse s).1).reverse, (DN.stepT r).length ≤ 16777224 := fun r hr => by
  have hr := List.mem_reverse.1 hr
  refine stepT_le (hn.2 r hr) ?_
  obtain ⟨q, hq, rfl⟩ := List.mem_map.1 hr
  rw [normR_len]
  exact h4 q hq
 have := keyL_len h5
 have h6 : (norm (parse s).1).reverse.length ≤ 16 := by rw [List.length_reverse]; exact hl
 have h7 := Nat.mul_le_mul_right (16777224 + 1) h6
 rw [key_eq]
 unfold Sz
 omega
theorem normOf_any (k : Int) (v : B) (hz : Sz v) (w : World) (hG : Gs w) : Calls Tryz.prog 38 #[.int .i64 k, .string (sb v)] w fun e w' => NrmR (normV k v) e ∧ Fr No w w' := by
 have HZ := hid hz; have HG := hid hG
 obtain ⟨n, hn⟩ : ∃ n, v.length = n := ⟨_, rfl⟩
 have HN := hid hn
 obtain ⟨V, hV⟩ : ∃ V, sb v = V := ⟨_, rfl⟩
 have HV := hid hV
 have hVs : V.size = n := by rw [← hV, sb_size, hn]
 have HVS := hid hVs
 rw [hV]
 unfold Sz at hz
 rw [hn] at hz
 have hni : (n : Int) ≤ 140737488351232 := by omega
 clear hG hn hV hVs hz
 by_cases hl : 200 < n
 ·have HR : Hid (normV k v = none) := hid (by unfold normV; rw [if_pos (by rw [HN.out]; exact hl)])
  have hli : (200 : Int) < (V.size : Int) := by rw [HVS.out]; omega
  clear hl
  go_enter Tryz.func38, Tryz.ntmps38
  go_wp2_with fail
  go_ret2
  exact ⟨⟨[], by rw [HR.out]; rfl, by unfold Sz; decide, fun y hy => by rw [HR.out] at hy; cases hy⟩, Fr.refl _ _⟩
 have HL := hid hl
 have hli : decide ((200 : Int) < (V.size : Int)) = false := decide_eq_false (by rw [HVS.out]; omega)
 clear hl
 by_cases h1 : k = 1
 ·subst h1
  have HR : Hid (normV 1 v = if fold v = [] then none else some (fold v)) := hid (by unfold normV; rw [if_neg (by rw [HN.out]; exact HL.out), if_pos rfl])
  have HF : Hid (∀ w', Calls Tryz.prog 69 #[.string V] w' fun e w'' => e = .returned (.string (sb (fold v))) ∧ Fr No w' w'') := hid (fun w' => by rw [← HV.out]; exact fold_any v (by have := HL.out; have := HN.out; omega) w')
  go_enter Tryz.func38, Tryz.ntmps38
  go_wp2_with fail
  refine (HF.out _).mono ?_
  rintro e w1 ⟨rfl, f1⟩
  have HF1 := hid f1
  clear f1
  obtain ⟨P, hP⟩ : ∃ P, decide (fold v = []) = P := ⟨_, rfl⟩
  have HP := hid hP
  clear hP
  go_wp2_with (first
   | ((with_reducible refine K.atO (.binOp .neq 9 _ _ _) ?_); refine wpL_valZ rfl (.bool (!P)) (by rw [← HP.out]; exact exec_neS _ _ _ rfl (fold v) [] rfl rfl w1) ?_))
  go_ret2
  refine ⟨⟨fold v, ?_, by unfold Sz; have := fold_len v; have := HL.out; have := HN.out; omega, fun y hy => ?_⟩, HF1.out⟩
  ·rw [HR.out]
   cases P with
   | true => rw [if_pos (of_decide_eq_true HP.out)]; rfl
   | false => rw [if_neg (of_decide_eq_false HP.out)]; rfl
  ·rw [HR.out] at hy
   split at hy
   ·cases hy
   ·cases hy; rfl
 have g1 : (k == 1) = false := by rw [beq_eq_false_iff_ne]; exact h1
 by_cases h2 : k = 2
 ·subst h2
  have HR : Hid (normV 2 v = some v) := hid (by unfold normV; rw [if_neg (by rw [HN.out]; exact HL.out), if_neg (by decide), if_pos rfl])
  clear h1
  go_enter Tryz.func38, Tryz.ntmps38
  go_wp2_with fail
  go_ret2
  exact ⟨⟨v, by rw [HR.out, HV.out]; rfl, HZ.out, fun y hy => by rw [HR.out] at hy; cases hy; rfl⟩, Fr.refl _ _⟩
 have g2 : (k == 2) = false := by rw [beq_eq_false_iff_ne]; exact h2
 by_cases h3 : k = 3
 ·subst h3
  have HR : Hid (normV 3 v = (numV v).map fun _ => v) := hid (by unfold normV; rw [if_neg (by rw [HN.out]; exact HL.out), if_neg (by decide), if_neg (by decide), if_pos rfl])
  have HF := hid (readNumber_any v HZ.out w HG.out)
  rw [HV.out] at HF
  clear h1 h2
  go_enter Tryz.func38, Tryz.ntmps38
  go_wp2_with fail
  refine HF.out.mono ?_
  rintro e w1 ⟨⟨m, rfl, -⟩, f1⟩
  have HF1 := hid f1
  clear f1 HF
  go_wp2_with fail
  go_ret2
  refine ⟨⟨v, ?_, HZ.out, fun y hy => ?_⟩, HF1.out⟩
  ·rw [HR.out, HV.out, Option.isSome_map]; rfl
  ·rw [HR.out] at hy
   cases hn : numV v with
   | none => rw [hn] at hy; cases hy
   | some m => rw [hn] at hy; cases hy; rfl
 have g3 : (k == 3) = false := by rw [beq_eq_false_iff_ne]; exact h3
 by_cases h4 : k = 4
 ·subst h4
  have HR : Hid (normV 4 v = if (parse v).2 = 0 then some (key (parse v).1) else none) := hid (by unfold normV; rw [if_neg (by rw [HN.out]; exact HL.out), if_neg (by decide), if_neg (by decide), if_neg (by decide), if_pos rfl])
  have HF := hid (parse_any v w HG.out.1)
  rw [HV.out] at HF
  have HK := hid (fun u w' (h : NmIn (fun k => w.heap.size ≤ k) w' u (parse v).1) => key_any _ u (parse v).1 w' h (parse_all v).1 (parse_all v).2.1 (parse_all v).2.2.1 (parse_all v).2.2.2)
  clear h1 h2 h3
  go_enter Tryz.func38, Tryz.ntmps38
  go_wp2_with fail
  refine HF.out.mono ?_
  rintro e w1 ⟨u, rfl, hu, f1⟩
  have HF1 := hid f1; have HU := hid hu
  obtain ⟨ua, uc, rfl, -, -⟩ := hu.form
  generalize (parse v).1.length = ul at HU
  clear f1 HF
  go_wp2_with fail
  refine (HK.out _ _ HU.out).mono ?_
  rintro e w2 ⟨rfl, f2⟩
  have HF2 := hid (HF1.out.trans' f2)
  clear f2
  go_wp2_with fail
  go_ret2
  refine ⟨⟨key (parse v).1, ?_, key_sz v, fun y hy => ?_⟩, HF2.out⟩
  ·rw [HR.out]
   by_cases hp : (parse v).2 = 0
   ·rw [if_pos hp, hp]; rfl
   ·rw [if_neg hp]
    have : ((parse v).2 == 0) = false := by rw [beq_eq_false_iff_ne]; exact hp
    simp [this]
  ·rw [HR.out] at hy
   split at hy
   ·cases hy; rfl
   ·cases hy
 have g4 : (k == 4) = false := by rw [beq_eq_false_iff_ne]; exact h4
 have HR : Hid (normV k v = truth v) := hid (by unfold normV; rw [if_neg (by rw [HN.out]; exact HL.out), if_neg h1, if_neg h2, if_neg h3, if_neg h4])
 have HF := hid (normTruth_any v HZ.out w)
 rw [HV.out] at HF
 clear h1 h2 h3 h4
 go_enter Tryz.func38, Tryz.ntmps38
 go_wp2_with fail
 refine HF.out.mono ?_
 rintro e w1 ⟨⟨x, rfl, hx, hxy⟩, f1⟩
 have HF1 := hid f1; have HX := hid (show Sz x ∧ ∀ y, truth v = some y → x = y from ⟨hx, hxy⟩)
 clear f1 HF hx hxy
 go_wp2_with fail
 go_ret2
 rw [HR.out]
 exact ⟨⟨x, rfl, HX.out.1, HX.out.2⟩, HF1.out⟩
theorem Mps.less {X Y : Nat → Prop} {w : World} {b : Nat} {s : Sch} {d : Int} {tm cm : Value} (h : Mps w Y b s d tm cm) (hy : ∀ k, X k → Y k) : Mps w X b s d tm cm := by
 refine h.imp id ?_
 rintro ⟨e, bt, bc, n, m, e1, e2, g1, g2, g3, g4⟩
 exact ⟨e, bt, bc, n, m, e1, e2, ⟨fun hx => g1.1 (hy _ hx), g1.2⟩, ⟨fun hx => g2.1 (hy _ hx), g2.2⟩, g3, g4⟩
theorem Sx.less {X Y : Nat → Prop} {w : World} {b : Nat} {s : Sch} (h : Sx w Y b s) (hy : ∀ k, X k → Y k) : Sx w X b s := by
 obtain ⟨vt, vc, d, tm, cm, h1, h2, h3, h4, h5, h6⟩ := h
 have hno : ∀ k, Out Y b k → k < w.heap.size → Out X b k := fun k ⟨h1, h2⟩ _ => ⟨fun hx => h1 (hy k hx), h2⟩
 exact ⟨vt, vc, d, tm, cm, h1, fun hx => h2 (hy b hx), h3.mono hno, h4.mono hno, h5, h6.less hy⟩
theorem Sy.less {X Y : Nat → Prop} {w : World} {b : Nat} {s : Sch} (h : Sy w Y b s) (hy : ∀ k, X k → Y k) : Sy w X b s := by
 obtain ⟨vt, vc, bt, bc, n, m, h1, h2, h3, h4, h5, h6, h7, h8, h9⟩ := h
 have hno : ∀ k, Out Y b k → k < w.heap.size → Out X b k := fun k ⟨h1, h2⟩ _ => ⟨fun hx => h1 (hy k hx), h2⟩
 exact ⟨vt, vc, bt, bc, n, m, h1, fun hx => h2 (hy b hx), h3.mono hno, h4.mono hno, h5, ⟨fun hx => h6.1 (hy _ hx), h6.2⟩, ⟨fun hx => h7.1 (hy _ hx), h7.2⟩, h8, h9⟩
def Also (X : Nat → Prop) (r : Nat) : Nat → Prop := fun k => X k ∨ k = r
theorem also_lt {X : Nat → Prop} {r n m : Nat} (hX : ∀ k, X k → k < n) (hr : r < m) (h : n ≤ m) : ∀ k, Also X r k → k < m := fun k hk => hk.elim (fun e => Nat.lt_of_lt_of_le (hX k e) h) (fun e => by omega)
theorem Sx.also {X : Nat → Prop} {w : World} {b r : Nat} {s : Sch} (h : Sx w X b s) (hr : w.heap.size ≤ r) : Sx w (Also X r) b s := h.more fun k hk => hk.imp id fun e => by omega
theorem Sy.also {X : Nat → Prop} {w : World} {b r : Nat} {s : Sch} (h : Sy w X b s) (hr : w.heap.size ≤ r) : Sx w (Also X r) b s := h.sx.also hr
theorem Sy.back {X : Nat → Prop} {w : World} {b r : Nat} {s : Sch} (h : Sy w (Also X r) b s) : Sy w X b s := h.less fun _ hk => .inl hk
theorem Sy.set {X : Nat → Prop} {w w' : World} {b r : Nat} {s : Sch} (h : Sy w (Also X r) b s) (hf : Fr (fun k => k = r) w w') : Sy w' (Also X r) b s := h.fr hf fun k hk => .inl (.inr hk)
theorem Sy.no {X : Nat → Prop} {w w' : World} {b : Nat} {s : Sch} (h : Sy w X b s) (hf : Fr No w w') : Sy w' X b s := h.fr hf fun _ e => e.elim
theorem Sy.nx {X : Nat → Prop} {w : World} {b : Nat} {s : Sch} (h : Sy w X b s) : ¬ X b := h.sx.nx
def ty0 : Ty := ⟨[], 0, false, false, false, false⟩
def tyOf (s : Sch) (n : B) : Ty := ((s.tyAt n).bind fun i => s.tys[i]?).getD ty0
theorem atR_some (i : Nat) : atR (some i) = .tuple #[.int .i64 (i : Int), .bool true] := rfl
theorem atR_none : atR none = .tuple #[.int .i64 0, .bool false] := rfl
theorem type_any (X : Nat → Prop) (b : Nat) (s : Sch) (n : B) (w : World) (h : Sx w X b s) (hX : ∀ k, X k → k < w.heap.size) (hz : Sz n) :
  Calls Tryz.prog 37 #[.pointer (some ⟨b, 0, none⟩), .string (sb n)] w fun e w' => e = .returned (.tuple #[.agg (tyV (tyOf s n)).toArray, .bool (s.tyAt n).isSome]) ∧ Sy w' X b s ∧ Fr (fun k => k = b) w w' := by
 obtain ⟨r, hr⟩ : ∃ r, w.heap.size = r := ⟨_, rfl⟩
 have HX := hid (h.also (r := r) (by omega)); have HXB := hid hX; have HZ := hid hz; have HR := hid hr
 have HBR : Hid (b < r) := hid (by have := h.lt; omega)
 clear h hX hz hr
 go_enter Tryz.func37, Tryz.ntmps37
 go_wp2_with (first
  | ((with_reducible refine K.atO (.alloc 53) ?_); refine wpL_alloc rfl _ rfl _ zeroTy _ rfl ?_; intro w1 HB1 HF1 HS1))
 rw [HR.out] at HB1 ⊢
 refine (typeAt_any (Also X r) b s n w1 (HX.out.no HF1.out) (also_lt HXB.out (by have := HS1.out; have := HR.out; omega) (by have := HS1.out; omega)) HZ.out).mono ?_
 rintro e w2 ⟨rfl, hs2, f2⟩
 have HS2 := hid hs2
 have HB2 := hid (HB1.out.fr f2 (by show ¬ r = b; have := HBR.out; omega))
 have HF2 : Hid (Fr (fun k => k = b) w w2) := hid (HF1.out.no.trans' f2)
 clear f2 HB1 HF1 HS1
 cases hat : s.tyAt n with
 | none =>
  have hty : tyOf s n = ty0 := by unfold tyOf; rw [hat]; rfl
  rw [atR_none]
  have HTY := hid hty; have HAT := hid hat
  clear hat hty hs2
  go_wp2_with (first
   | ((with_reducible refine K.atO (.build 53 _) ?_); refine wpL_valZ rfl (.agg (tyV ty0).toArray) (by kernel_rfl) ?_)
   | ((with_reducible refine K.atO (.store 53 _ _) ?_); refine wpL_store rfl _ _ _ rfl r 0 (tyV ty0) rfl rfl 53 _ HB2.out (by simp [tyV]) infoTy (oneTy ty0) ?_; intro w3 HB3 HF3 HS3))
  have HB3' : Hid (Blk w3 r 53 (tyV ty0)) := hid HB3.out
  refine ret_cell2 rfl _ rfl HB3'.out rfl rfl infoTy rfl ?_
  exact ⟨by rw [HTY.out, HAT.out]; rfl, (HS2.out.set HF3.out).back, HF2.out.trans HF3.out (fun k e => .inr (by have e : k = r := e; have := HR.out; omega))⟩
 | some i =>
  have hil : i < s.tys.length := by have := fnd_lt hat; unfold Sch.tn at this; rwa [List.length_map] at this
  obtain ⟨t, ht⟩ : ∃ t, s.tys[i]? = some t := ⟨_, List.getElem?_eq_getElem hil⟩
  have hty : tyOf s n = t := by unfold tyOf; rw [hat]; simp [ht]
  rw [atR_some]
  have HTY := hid hty; have HAT := hid hat
  obtain ⟨vt, vc, bt, bc, n1, m1, hB, -, htv, -, -, -, -, -, -⟩ := hs2
  obtain ⟨g, o, cq, cs, e1, -, -, hrr, -, hp⟩ := htv.get ht
  subst e1
  obtain ⟨rfl, -⟩ := hp
  have HRR := hid hrr
  have d0 : w2.cell? ⟨b, 0, none⟩ = some (.slice (some ⟨g, o, none⟩) s.tys.length cq) := hB.cell 0
  obtain ⟨L, hL⟩ : ∃ L, s.tys.length = L := ⟨_, rfl⟩
  rw [hL] at hil d0
  have hii : (i : Int) < (L : Int) := by omega
  have hi0 : (0 : Int) ≤ i := by omega
  clear hat hty hB htv hrr ht hL hil
  go_wp2_with (first
   | ((with_reducible refine K.atO (.load 53 _) ?_); refine wpL_load rfl _ _ rfl g (o + i * 6) rfl (tyV t) _ HRR.out rfl rfl infoTy ?_)
   | ((with_reducible refine K.atO (.store 53 _ _) ?_); refine wpL_store rfl _ _ _ rfl r 0 (tyV t) rfl rfl 53 _ HB2.out (by simp [tyV]) infoTy (oneTy t) ?_; intro w3 HB3 HF3 HS3))
  have HB3' : Hid (Blk w3 r 53 (tyV t)) := hid HB3.out
  refine ret_cell2 rfl _ rfl HB3'.out rfl rfl infoTy rfl ?_
  exact ⟨by rw [HTY.out, HAT.out]; rfl, (HS2.out.set HF3.out).back, HF2.out.trans HF3.out (fun k e => .inr (by have e : k = r := e; have := HR.out; omega))⟩
theorem tyAt_tys {s : Sch} {n : B} {i : Nat} (h : s.tyAt n = some i) : s.tys[i]? = some (tyOf s n) := by
 have hil : i < s.tys.length := by have := fnd_lt h; unfold Sch.tn at this; rwa [List.length_map] at this
 unfold tyOf
 rw [h]
 simp [hil]
theorem normE_none {s : Sch} {n v : B} (h : s.tyAt n = none) : normE s n v = ([], 131) := by
 unfold normE
 rw [h]
 rfl
theorem normE_some {s : Sch} {n v : B} {i : Nat} (h : s.tyAt n = some i) : normE s n v = match normV (tyOf s n).syn v with | none => ([], 132) | some x => (x, 0) := by
 unfold normE
 rw [h, Option.bind_some, tyAt_tys h]
 rfl
theorem synOf_ty (s : Sch) (n : B) (i : Nat) (h : s.tyAt n = some i) : synOf s n = (tyOf s n).syn := by
 unfold synOf
 rw [h, Option.bind_some, tyAt_tys h]
 rfl
theorem Sy.bb {X : Nat → Prop} {w w' : World} {b : Nat} {s : Sch} (h : Sy w' X b s) (hG : Gs w) (hf : Fr (fun k => k = b) w w') (hx : GX X) : Gs w' := hG.bb hf hx h.nx
theorem norm_any (X : Nat → Prop) (b : Nat) (s : Sch) (n v : B) (w : World) (h : Sx w X b s) (hX : ∀ k, X k → k < w.heap.size) (hx : GX X) (hG : Gs w) (hn : Sz n) (hv : Sz v) :
  Calls Tryz.prog 15 #[.pointer (some ⟨b, 0, none⟩), .string (sb n), .string (sb v)] w fun e w' => e = .returned (.tuple #[.string (sb (normE s n v).1), .int .i64 (normE s n v).2]) ∧ Sy w' X b s ∧ Fr (fun k => k = b) w w' := by
 have HT := hid (type_any X b s n w h hX hn)
 have HG := hid hG; have HX := hid hx; have HV := hid hv
 clear h hX hx hG hn hv
 go_enter Tryz.func15, Tryz.ntmps15
 go_wp2_with fail
 refine HT.out.mono ?_
 rintro e w1 ⟨rfl, hs1, f1⟩
 have HS1 := hid hs1; have HF1 := hid f1
 have HG1 := hid (hs1.bb HG.out f1 HX.out)
 clear hs1 f1 HT
 cases hat : s.tyAt n with
 | none =>
  have HR := hid (normE_none (v := v) hat)
  have e1 : (none : Option Nat).isSome = false := rfl
  rw [e1]
  clear hat e1
  go_wp2_with (first
   | ((with_reducible refine K.atO (.alloc 53) ?_); refine wpL_alloc rfl _ rfl _ zeroTy _ rfl ?_; intro w2 HB2 HF2 HS2)
   | ((with_reducible refine K.atO (.store 53 _ _) ?_); refine wpL_store rfl _ _ _ rfl w1.heap.size 0 (tyV (tyOf s n)) rfl rfl 53 _ HB2.out (by simp [tyV]) infoTy (oneTy _) ?_; intro w3 HB3 HF3 HS3))
  go_ret2
  have hf3 : Fr No w1 w3 := HF2.out.trans HF3.out (fun k e => .inr (by have e : k = w1.heap.size := e; omega))
  exact ⟨by rw [HR.out]; rfl, HS1.out.no hf3, HF1.out.trans' hf3.no⟩
 | some i =>
  have HR := hid (normE_some (v := v) hat)
  have e1 : (some i).isSome = true := rfl
  rw [e1]
  clear hat e1
  go_wp2_with (first
   | ((with_reducible refine K.atO (.alloc 53) ?_); refine wpL_alloc rfl _ rfl _ zeroTy _ rfl ?_; intro w2 HB2 HF2 HS2)
   | ((with_reducible refine K.atO (.store 53 _ _) ?_); refine wpL_store rfl _ _ _ rfl w1.heap.size 0 (tyV (tyOf s n)) rfl rfl 53 _ HB2.out (by simp [tyV]) infoTy (oneTy _) ?_; intro w3 HB3 HF3 HS3; refine Hid.out ?_))
  have HF3' : Hid (Fr No w1 w3) := hid (HF2.out.trans HF3.out (fun k e => .inr (by have e : k = w1.heap.size := e; omega)))
  have HB3' : Hid (Blk w3 w1.heap.size 53 (tyV (tyOf s n))) := hid HB3.out
  obtain ⟨r, hr⟩ : ∃ r, w1.heap.size = r := ⟨_, rfl⟩
  rw [hr] at HB3' ⊢
  have c1 : w3.cell? ⟨r, 1, none⟩ = some (.int .i64 (tyOf s n).syn) := HB3'.out.cell 1
  clear hr HB2 HF2 HS2 HB3 HF3 HS3
  refine hid ?_
  go_wp2_with fail
  refine (normOf_any (tyOf s n).syn v HV.out w3 (HG1.out.no HF3'.out)).mono ?_
  rintro e w4 ⟨⟨x, rfl, -, hxy⟩, f4⟩
  have HF4 := hid (HF3'.out.trans' f4); have HXY := hid hxy
  clear f4 hxy c1
  cases hnv : normV (tyOf s n).syn v with
  | none =>
   have HNV := hid hnv
   have e1 : (none : Option B).isSome = false := rfl
   rw [e1]
   clear hnv e1
   go_wp2_with fail
   go_ret2
   exact ⟨by rw [HR.out, HNV.out]; rfl, HS1.out.no HF4.out, HF1.out.trans' HF4.out.no⟩
  | some y =>
   have HNV := hid hnv
   have e1 : (some y).isSome = true := rfl
   rw [e1]
   clear hnv e1
   go_wp2_with fail
   go_ret2
   exact ⟨by rw [HR.out, HNV.out, HXY.out y HNV.out]; rfl, HS1.out.no HF4.out, HF1.out.trans' HF4.out.no⟩
theorem cmpC_any (m n : Int) (w : World) : Calls Tryz.prog 40 #[.int .i64 m, .int .i64 n] w fun e w' => e = .returned (.int .i64 (sgn m n)) ∧ w' = w := by
 have hnan : ∀ (k : Int) (w : World), Calls Tryz.prog 75 #[.int .i64 k] w fun e w' => e = .returned (.bool false) ∧ w' = w := fun k w => by
  go_enter Tryz.func75, Tryz.ntmps75
  go_wp2
  go_ret
  exact ⟨rfl, rfl⟩
 have HN := hid hnan
 clear hnan
 rcases Int.lt_trichotomy m n with h | h | h
 ·have HR : Hid (sgn m n = -1) := hid (by unfold sgn; rw [if_pos h])
  go_enter Tryz.func40, Tryz.ntmps40
  go_wp2_with fail
  refine (HN.out m w).mono ?_
  rintro e w1 ⟨rfl, rfl⟩
  go_wp2_with fail
  refine (HN.out n w1).mono ?_
  rintro e w2 ⟨rfl, rfl⟩
  go_wp2_with fail
  go_ret
  exact ⟨by rw [HR.out]; rfl, rfl⟩
 ·have HR : Hid (sgn m n = 0) := hid (by unfold sgn; rw [if_neg (by omega), if_neg (by omega)])
  have h1 : decide (m < n) = false := decide_eq_false (by omega)
  have h2 : decide (n < m) = false := decide_eq_false (by omega)
  clear h
  go_enter Tryz.func40, Tryz.ntmps40
  go_wp2_with fail
  refine (HN.out m w).mono ?_
  rintro e w1 ⟨rfl, rfl⟩
  go_wp2_with fail
  refine (HN.out n w1).mono ?_
  rintro e w2 ⟨rfl, rfl⟩
  go_wp2_with fail
  go_ret
  exact ⟨by rw [HR.out]; rfl, rfl⟩
 ·have HR : Hid (sgn m n = 1) := hid (by unfold sgn; rw [if_neg (by omega), if_pos h])
  have h1 : decide (m < n) = false := decide_eq_false (by omega)
  go_enter Tryz.func40, Tryz.ntmps40
  go_wp2_with fail
  refine (HN.out m w).mono ?_
  rintro e w1 ⟨rfl, rfl⟩
  go_wp2_with fail
  refine (HN.out n w1).mono ?_
  rintro e w2 ⟨rfl, rfl⟩
  go_wp2_with fail
  go_ret
  exact ⟨by rw [HR.out]; rfl, rfl⟩
theorem normE_sz {s : Sch} {n v : B} (hv : Sz v) : Sz (normE s n v).1 := by
 have h0 : Sz ([] : B) := by unfold Sz; decide
 cases hat : s.tyAt n with
 | none => rw [normE_none hat]; exact h0
 | some i =>
  rw [normE_some hat]
  cases hn : normV (tyOf s n).syn v with
  | none => exact h0
  | some x =>
   show Sz x
   unfold normV at hn
   split at hn
   ·cases hn
   ·split at hn
    ·split at hn
     ·cases hn
     ·cases hn
      have := fold_len v
      unfold Sz at *
      omega
    ·split at hn
     ·cases hn; exact hv
     ·split at hn
      ·cases hq : numV v with
       | none => rw [hq] at hn; cases hn
       | some m => rw [hq] at hn; cases hn; exact hv
      ·split at hn
       ·split at hn
        ·cases hn; exact key_sz v
        ·cases hn
       ·unfold truth at hn
        split at hn
        ·cases hn; unfold Sz; decide
        ·split at hn
         ·cases hn; unfold Sz; decide
         ·cases hn
theorem norm_num {s : Sch} {n v : B} {i : Nat} (h : s.tyAt n = some i) (h3 : (tyOf s n).syn = 3) (h0 : (normE s n v).2 = 0) : ∃ m, numV (normE s n v).1 = some m := by
 rw [normE_some h] at h0 ⊢
 rw [h3] at h0 ⊢
 cases hn : normV 3 v with
 | none => rw [hn] at h0; cases h0
 | some x =>
  unfold normV at hn
  split at hn
  ·cases hn
  ·rw [if_neg (by decide), if_neg (by decide), if_pos rfl] at hn
   cases hq : numV v with
   | none => rw [hq] at hn; cases hn
   | some m =>
    rw [hq] at hn
    cases hn
    exact ⟨m, hq⟩
theorem normE_at {s : Sch} {n v : B} (h0 : (normE s n v).2 = 0) : ∃ i, s.tyAt n = some i := by
 cases hat : s.tyAt n with
 | none => rw [normE_none hat] at h0; cases h0
 | some i => exact ⟨i, rfl⟩
theorem cmp_any (X : Nat → Prop) (b : Nat) (s : Sch) (n x y : B) (w : World) (h : Sx w X b s) (hX : ∀ k, X k → k < w.heap.size) (hx : GX X) (hG : Gs w) (hn : Sz n) (hzx : Sz x) (hzy : Sz y) :
  Calls Tryz.prog 16 #[.pointer (some ⟨b, 0, none⟩), .string (sb n), .string (sb x), .string (sb y)] w fun e w' => e = .returned (.tuple #[.int .i64 (cmpE s n x y).1, .int .i64 (cmpE s n x y).2]) ∧ Sy w' X b s ∧ Fr (fun k => k = b) w w' := by
 have H1 := hid (norm_any X b s n x w h hX hx hG hn hzx)
 have HG := hid hG; have HX := hid hx; have HXB := hid hX; have HN := hid hn; have HZY := hid hzy
 have HSZ := hid (show Sz (normE s n x).1 ∧ Sz (normE s n y).1 from ⟨normE_sz hzx, normE_sz hzy⟩)
 obtain ⟨E1, hE1⟩ : ∃ E1, (normE s n x).2 = E1 := ⟨_, rfl⟩
 obtain ⟨E2, hE2⟩ : ∃ E2, (normE s n y).2 = E2 := ⟨_, rfl⟩
 have HE1 := hid hE1; have HE2 := hid hE2
 rw [hE1] at H1
 clear h hX hx hG hn hzx hzy hE1 hE2
 go_enter Tryz.func16, Tryz.ntmps16
 go_wp2_with fail
 refine H1.out.mono ?_
 rintro e w1 ⟨rfl, hs1, f1⟩
 have HS1 := hid hs1; have HF1 := hid f1
 have HG1 := hid (hs1.bb HG.out f1 HX.out)
 have HB1 := hid (fun k hk => Nat.lt_of_lt_of_le (HXB.out k hk) f1.size)
 clear hs1 f1 H1
 by_cases h1 : E1 = 0
 case neg =>
  have HR : Hid (cmpE s n x y = (0, E1)) := hid (by unfold cmpE; rw [HE1.out, if_neg h1])
  have h1b : (E1 != 0) = true := by rw [bne_iff_ne]; exact h1
  clear h1
  go_wp2_with fail
  go_ret2
  exact ⟨by rw [HR.out]; rfl, HS1.out, HF1.out⟩
 subst h1
 go_wp2_with fail
 refine (norm_any X b s n y w1 HS1.out.sx HB1.out HX.out HG1.out HN.out HZY.out).mono ?_
 rintro e w2 ⟨rfl, hs2, f2⟩
 rw [HE2.out]
 have HS2 := hid hs2; have HF2 := hid (HF1.out.trans' f2)
 have HG2 := hid (hs2.bb HG1.out f2 HX.out)
 have HB2 := hid (fun k hk => Nat.lt_of_lt_of_le (HB1.out k hk) f2.size)
 clear hs2 f2
 by_cases h2 : E2 = 0
 case neg =>
  have HR : Hid (cmpE s n x y = (0, E2)) := hid (by unfold cmpE; rw [HE1.out, if_pos rfl, HE2.out, if_neg h2])
  have h2b : (E2 != 0) = true := by rw [bne_iff_ne]; exact h2
  clear h2
  go_wp2_with fail
  go_ret2
  exact ⟨by rw [HR.out]; rfl, HS2.out, HF2.out⟩
 subst h2
 have HR : Hid (cmpE s n x y = (cmpV (synOf s n) (normE s n x).1 (normE s n y).1, 0)) := hid (by unfold cmpE; rw [HE1.out, if_pos rfl, HE2.out, if_pos rfl])
 go_wp2_with fail
 refine (type_any X b s n w2 HS2.out.sx HB2.out HN.out).mono ?_
 rintro e w3 ⟨rfl, hs3, f3⟩
 have HS3 := hid hs3; have HF3 := hid (HF2.out.trans' f3)
 have HG3 := hid (hs3.bb HG2.out f3 HX.out)
 clear hs3 f3
 obtain ⟨i, hat⟩ := normE_at HE1.out
 have HSY := hid (synOf_ty s n i hat)
 obtain ⟨T, hT⟩ : ∃ T, tyOf s n = T := ⟨_, rfl⟩
 have HT := hid hT
 rw [hT]
 have hTy : Hid (s.tyAt n = some i) := hid hat
 clear hat hT
 go_wp2_with (first
  | ((with_reducible refine K.atO (.alloc 53) ?_); refine wpL_alloc rfl _ rfl _ zeroTy _ rfl ?_; intro w4 HB4 HF4 HS4)
  | ((with_reducible refine K.atO (.store 53 _ _) ?_); refine wpL_store rfl _ _ _ rfl w3.heap.size 0 (tyV T) rfl rfl 53 _ HB4.out (by simp [tyV]) infoTy (oneTy _) ?_; intro w5 HB5 HF5 HS5; refine Hid.out ?_))
 have HF5' : Hid (Fr No w3 w5) := hid (HF4.out.trans HF5.out (fun k e => .inr (by have e : k = w3.heap.size := e; omega)))
 have HB5' : Hid (Blk w5 w3.heap.size 53 (tyV T)) := hid HB5.out
 obtain ⟨r, hr⟩ : ∃ r, w3.heap.size = r := ⟨_, rfl⟩
 rw [hr] at HB5' ⊢
 have c1 : w5.cell? ⟨r, 1, none⟩ = some (.int .i64 T.syn) := HB5'.out.cell 1
 obtain ⟨K, hK⟩ : ∃ K, T.syn = K := ⟨_, rfl⟩
 rw [hK] at c1
 have HK := hid hK
 clear hr HB4 HF4 HS4 HB5 HF5 HS5 hK
 refine hid ?_
 by_cases h3 : K = 3
 ·have h3b : (K == 3) = true := by rw [beq_iff_eq]; exact h3
  have H3 := hid h3
  obtain ⟨m1, hm1⟩ := norm_num (v := x) hTy.out (by rw [HT.out, HK.out]; exact h3) HE1.out
  obtain ⟨m2, hm2⟩ := norm_num (v := y) hTy.out (by rw [HT.out, HK.out]; exact h3) HE2.out
  have HM1 := hid hm1; have HM2 := hid hm2
  clear h3 hm1 hm2
  go_wp2_with fail
  refine (readNumber_any (normE s n x).1 HSZ.out.1 w5 (HG3.out.no HF5'.out)).mono ?_
  rintro e w6 ⟨⟨k1, rfl, hk1⟩, f6⟩
  obtain rfl : k1 = m1 := hk1 m1 HM1.out
  have HF6 := hid (HF5'.out.trans' f6)
  clear f6 hk1 c1
  go_wp2_with fail
  refine (readNumber_any (normE s n y).1 HSZ.out.2 w6 (HG3.out.no HF6.out)).mono ?_
  rintro e w7 ⟨⟨k2, rfl, hk2⟩, f7⟩
  obtain rfl : k2 = m2 := hk2 m2 HM2.out
  have HF7 := hid (HF6.out.trans' f7)
  clear f7 hk2
  go_wp2_with fail
  refine (cmpC_any k1 k2 w7).mono ?_
  rintro e w8 ⟨rfl, rfl⟩
  go_wp2_with fail
  go_ret2
  refine ⟨?_, HS3.out.no HF7.out, HF3.out.trans' HF7.out.no⟩
  rw [HR.out, HSY.out, HT.out, HK.out, H3.out]
  unfold cmpV
  rw [if_pos rfl, HM1.out, HM2.out]
  rfl
 ·have h3b : (K == 3) = false := by rw [beq_eq_false_iff_ne]; exact h3
  have H3 := hid h3
  clear h3
  go_wp2_with fail
  refine (DN.compare_any (normE s n x).1 (normE s n y).1 w5).mono ?_
  rintro e w6 ⟨rfl, rfl⟩
  go_wp2_with fail
  go_ret2
  refine ⟨?_, HS3.out.no HF5'.out, HF3.out.trans' HF5'.out.no⟩
  rw [HR.out, HSY.out, HT.out, HK.out]
  unfold cmpV
  rw [if_neg H3.out]
  rfl
end Go.Proofs.YtgbiicipkbpmeaaGreatDoor.SC
namespace Go.Proofs.YtgbiicipkbpmeaaGreatDoor.SC
set_option maxRecDepth 100000
open BE DN
def pos (s : Sch) (en : Ent) : List Nat := en.filterMap fun a => s.tyAt a.1
theorem cb_val : ∀ a b : B, Lib.compareBytes a b = -1 ∨ Lib.compareBytes a b = 0 ∨ Lib.compareBytes a b = 1
 | [], [] => .inr (.inl rfl)
 | [], _ :: _ => .inl rfl
 | _ :: _, [] => .inr (.inr rfl)
 | a :: r, b :: s => by
  unfold Lib.compareBytes
  split
  ·exact .inl rfl
  ·split
   ·exact .inr (.inr rfl)
   ·exact cb_val r s
theorem cb_zero : ∀ a b : B, Lib.compareBytes a b = 0 ↔ a = b
 | [], [] => by simp [Lib.compareBytes]
 | [], _ :: _ => by simp [Lib.compareBytes]
 | _ :: _, [] => by simp [Lib.compareBytes]
 | a :: r, b :: s => by
  have ih := cb_zero r s
  unfold Lib.compareBytes
  split
  ·rename_i h
   refine iff_of_false (by decide) fun e => ?_
   cases e
   exact absurd h (UInt8.lt_irrefl _)
  ·split
   ·rename_i h
    refine iff_of_false (by decide) fun e => ?_
    cases e
    exact absurd h (UInt8.lt_irrefl _)
   ·rename_i h1 h2
    have he : a = b := by
     rw [UInt8.lt_iff_toNat_lt] at h1 h2
     exact UInt8.toNat_inj.1 (by omega)
    subst he
    rw [ih]
    simp
end Go.Proofs.YtgbiicipkbpmeaaGreatDoor.SC
