/-
  Part 7 of the proof: ScK, ScM, ScR.
-/
import Derived.Test.YtgbiicipkbpmeaaGreatDoorFe06
import Derived.Laws.Cover3
import Derived.Test.YtgbiicipkbpmeaaGreatDoorFe03
import Derived.Defers
import Derived.Laws.Pointers
import Derived.Laws.LoneSync
import Derived.RegionTactic
import Derived.RegionCalls
import Derived.ChangeAlike
set_option linter.unusedSimpArgs false
set_option linter.unusedVariables false
namespace Go.Proofs.YtgbiicipkbpmeaaGreatDoor.SC
set_option maxRecDepth 100000
set_option maxHeartbeats 128000000
open Go.RowKit K BE DN
theorem info_ex {P : Program} {t : TypeId} {z : Value} {s b : Nat} (h : (P.info? t).map (fun i => (i.zero, i.size, i.bytes)) = some (some z, s, b)) : ∃ i, P.info? t = some i ∧ i.zero = some z ∧ i.size = s ∧ i.bytes = b := by
 cases hi : P.info? t with
 | none => rw [hi] at h; cases h
 | some i =>
  rw [hi] at h
  simp only [Option.map_some, Option.some.injEq, Prod.mk.injEq] at h
  exact ⟨i, rfl, h.1, h.2.1, h.2.2⟩
theorem exec_eqNil {P : Program} {op : Oper} {a : Act} (t e : TypeId) (x y : Operand) (u : TypeId) (ho : op.op = .binOp .eql t x y u) (hu : P.underlying t = some (.slice e)) (ad : Option Addr) (n c : Nat) (hx : a.eval x = .slice ad n c) (hy : a.eval y = .slice none 0 0) (w : World) :
  (execOp a.eval op).run P w = .ok (.value (.bool ad.isNone)) w := by
 unfold execOp
 simp only [ho, hx, hy]
 simp [eqGuard, binOp, run_equal_slice_nil w t e ad n c hu, Result.andThen]
theorem infoTy3 : (Tryz.prog.info? 53).map (fun i => (i.zero, i.size, i.bytes)) = some (some (.agg #[.string ⟨#[]⟩, .int .i64 0, .bool false, .bool false, .bool false, .bool false]), 6, 32) := by kernel_rfl
theorem infoCl3 : (Tryz.prog.info? 55).map (fun i => (i.zero, i.size, i.bytes)) = some (some (.agg #[.string ⟨#[]⟩, .int .i64 0, .string ⟨#[]⟩, .slice none 0 0, .slice none 0 0]), 5, 88) := by kernel_rfl
theorem slCells {α : Type} {k : Nat} {p : α → List Value → Prop} {S : Nat → Prop} {w : World} {a : Option Addr} {n c : Nat} {xs : List α} (h : Sl k p S w (.slice a n c) xs) :
  ∃ L : List (List Value), L.length = n ∧ (∀ c ∈ L, c.length = k) ∧ (∀ (j : Nat) (x : α) (c : List Value), xs[j]? = some x → L[j]? = some c → p x c) ∧ (n = 0 ∨ ∃ g o, a = some ⟨g, o, none⟩ ∧ g < w.heap.size ∧ w.rangeAt g o L.flatten) := by
 obtain ⟨a', c', e, h2, h3, h4⟩ := h
 cases e
 rcases h4 with rfl | ⟨g, o, L, rfl, hS, hg, hr, hL, hc, hp⟩
 ·exact ⟨[], rfl, (fun c hc => by cases hc), (fun j x c hx hc => by simp at hx), .inl rfl⟩
 ·exact ⟨L, hL, hc, hp, .inr ⟨g, o, rfl, hg, hr⟩⟩
theorem cloneS_any {S : Nat → Prop} (v : Value) (l : List B) (w : World) (h : LsIn S w v l) (hb : l.length * 16 ≤ 140737488351232) :
  Calls Tryz.prog 45 #[v] w fun e w' => ∃ v', e = .returned v' ∧ LsIn (fun i => w.heap.size ≤ i) w' v' l ∧ Fr No w w' := by
 obtain ⟨a, cp, rfl, hcap, hl⟩ := h.form
 obtain ⟨L, hLl, hLk, hLp, hLr⟩ := slCells h
 have HL := hid (show L.length = l.length ∧ (∀ c ∈ L, c.length = 1) ∧ (∀ (j : Nat) (x : B) (c : List Value), l[j]? = some x → L[j]? = some c → StC x c) from ⟨hLl, hLk, hLp⟩)
 have HFL : Hid (L.flatten.length = l.length * 1) := hid (by rw [flat_length L hLk, hLl])
 have HONE : Hid (∀ v ∈ L.flatten, v.oneCell' = true) := hid (fun v hv => by
  obtain ⟨c, hc, hvc⟩ := List.mem_flatten.1 hv
  obtain ⟨j, hj, rfl⟩ := List.mem_iff_getElem.1 hc
  have hjl : j < l.length := by omega
  have hp := hLp j _ _ (List.getElem?_eq_getElem hjl) (List.getElem?_eq_getElem hj)
  rw [hp.1] at hvc
  exact (by rw [List.mem_singleton.1 hvc]; rfl))
 obtain ⟨V, hV⟩ : ∃ V, L.flatten = V := ⟨_, rfl⟩
 have HV := hid hV
 rw [hV] at hLr HFL HONE
 have HR := hid hLr
 obtain ⟨n, hn⟩ : ∃ n, l.length = n := ⟨_, rfl⟩
 have HNN := hid hn
 rw [hn] at HR HL HFL hcap hl hb ⊢
 obtain ⟨ic, hic, hzc, hsc, hbc⟩ := info_ex infoS3
 have IC := hid hic; have ZC := hid hzc; have SC := hid hsc; have BC := hid hbc
 have HB := hid (show n * 16 ≤ 140737488351232 ∧ n ≤ 140737488351232 from ⟨hb, hl⟩)
 clear h hLl hLk hLp hV hLr hn hcap hl hb hic hzc hsc hbc
 cases a with
 | none =>
  have hn0 : n = 0 := by
   rcases HR.out with h | ⟨g, o, e, -⟩
   ·exact h
   ·cases e
  subst hn0
  obtain rfl : l = [] := List.eq_nil_of_length_eq_zero HNN.out
  clear HNN HL HFL HONE HV HR
  go_enter Tryz.func45, Tryz.ntmps45
  go_wp2_with (first
   | ((with_reducible refine K.atO (.binOp .eql 37 _ _ _) ?_); refine wpL_valZ rfl (.bool true) (exec_eqNil _ 9 _ _ _ rfl Tryz.underlying37 none 0 cp rfl rfl w) ?_))
  go_ret
  exact ⟨_, rfl, ⟨none, 0, rfl, Nat.le_refl _, by simp, .inl rfl⟩, Fr.refl _ _⟩
 | some ad =>
  go_enter Tryz.func45, Tryz.ntmps45
  go_wp2_with (first
   | ((with_reducible refine K.atO (.binOp .eql 37 _ _ _) ?_); refine wpL_valZ rfl (.bool false) (exec_eqNil _ 9 _ _ _ rfl Tryz.underlying37 (some ad) n cp rfl rfl w) ?_)
   | ((with_reducible refine K.atO (.buildSlice 37 _ _) ?_); refine wpL_buildNone rfl 37 9 rfl (fun _ => by kernel_rfl) ?_; intro w2 HB2 HF2 HS2)
   | ((with_reducible refine K.atO (.call { callee := .builtin .append, args := _, argTypes := _ }) ?_); refine wpL_appendNew rfl _ _ 37 rfl w.heap.size 9 ic _ 1 16 Tryz.underlying37 IC.out ZC.out SC.out BC.out rfl (by decide) (.slice (some ⟨w.heap.size, 0, none⟩) 0 0) rfl (HB2.out.own (Nat.le_refl _) rfl (Nat.le_refl _) (by unfold maxLen; omega) rfl rfl) (some ad) n cp V rfl HFL.out (HR.out.imp id (fun ⟨g, o, e, hg, hr⟩ => ⟨ad, rfl, fun j u hj => by rw [Option.some.inj e, Addr.add_mid]; exact (HF2.out.range hr id) j u hj⟩)) HONE.out (by unfold maxLen; have := HB.out; omega) (by have := HB.out; omega) HF2.out.size ?_; intro a3 c3 w3 HO3 HG3 HA3))
  go_ret
  refine ⟨_, rfl, ?_, HF2.out.grown HG3.out (fun k e => .inr (by cases e; exact Nat.le_refl _))⟩
  exact own_sl HO3.out L HV.out HNN.out HL.out.1 HL.out.2.1 HL.out.2.2 HB.out.2
theorem cloneTy_any {S : Nat → Prop} (v : Value) (l : List Ty) (w : World) (h : TysIn S w v l) (hb : l.length * 32 ≤ 140737488351232) :
  Calls Tryz.prog 18 #[v] w fun e w' => ∃ v', e = .returned v' ∧ TysIn (fun i => w.heap.size ≤ i) w' v' l ∧ Fr No w w' := by
 obtain ⟨a, cp, rfl, hcap, hl⟩ := h.form
 obtain ⟨L, hLl, hLk, hLp, hLr⟩ := slCells h
 have HL := hid (show L.length = l.length ∧ (∀ c ∈ L, c.length = 6) ∧ (∀ (j : Nat) (x : Ty) (c : List Value), l[j]? = some x → L[j]? = some c → TyC x c) from ⟨hLl, hLk, hLp⟩)
 have HFL : Hid (L.flatten.length = l.length * 6) := hid (by rw [flat_length L hLk, hLl])
 have HONE : Hid (∀ v ∈ L.flatten, v.oneCell' = true) := hid (fun v hv => by
  obtain ⟨c, hc, hvc⟩ := List.mem_flatten.1 hv
  obtain ⟨j, hj, rfl⟩ := List.mem_iff_getElem.1 hc
  have hjl : j < l.length := by omega
  have hp := hLp j _ _ (List.getElem?_eq_getElem hjl) (List.getElem?_eq_getElem hj)
  rw [hp.1] at hvc
  exact oneTy _ v hvc)
 obtain ⟨V, hV⟩ : ∃ V, L.flatten = V := ⟨_, rfl⟩
 have HV := hid hV
 rw [hV] at hLr HFL HONE
 have HR := hid hLr
 obtain ⟨n, hn⟩ : ∃ n, l.length = n := ⟨_, rfl⟩
 have HNN := hid hn
 rw [hn] at HR HL HFL hcap hl hb ⊢
 obtain ⟨ic, hic, hzc, hsc, hbc⟩ := info_ex infoTy3
 have IC := hid hic; have ZC := hid hzc; have SC := hid hsc; have BC := hid hbc
 have HB := hid (show n * 32 ≤ 140737488351232 ∧ n ≤ 140737488351232 from ⟨hb, hl⟩)
 clear h hLl hLk hLp hV hLr hn hcap hl hb hic hzc hsc hbc
 cases a with
 | none =>
  have hn0 : n = 0 := by
   rcases HR.out with h | ⟨g, o, e, -⟩
   ·exact h
   ·cases e
  subst hn0
  obtain rfl : l = [] := List.eq_nil_of_length_eq_zero HNN.out
  clear HNN HL HFL HONE HV HR
  go_enter Tryz.func18, Tryz.ntmps18
  go_wp2_with (first
   | ((with_reducible refine K.atO (.binOp .eql 22 _ _ _) ?_); refine wpL_valZ rfl (.bool true) (exec_eqNil _ 53 _ _ _ rfl Tryz.underlying22 none 0 cp rfl rfl w) ?_))
  go_ret
  exact ⟨_, rfl, ⟨none, 0, rfl, Nat.le_refl _, by simp, .inl rfl⟩, Fr.refl _ _⟩
 | some ad =>
  go_enter Tryz.func18, Tryz.ntmps18
  go_wp2_with (first
   | ((with_reducible refine K.atO (.binOp .eql 22 _ _ _) ?_); refine wpL_valZ rfl (.bool false) (exec_eqNil _ 53 _ _ _ rfl Tryz.underlying22 (some ad) n cp rfl rfl w) ?_)
   | ((with_reducible refine K.atO (.buildSlice 22 _ _) ?_); refine wpL_buildNone rfl 22 53 rfl (fun _ => by kernel_rfl) ?_; intro w2 HB2 HF2 HS2)
   | ((with_reducible refine K.atO (.call { callee := .builtin .append, args := _, argTypes := _ }) ?_); refine wpL_appendNew rfl _ _ 22 rfl w.heap.size 53 ic _ 6 32 Tryz.underlying22 IC.out ZC.out SC.out BC.out rfl (by decide) (.slice (some ⟨w.heap.size, 0, none⟩) 0 0) rfl (HB2.out.own (Nat.le_refl _) rfl (Nat.le_refl _) (by unfold maxLen; omega) rfl rfl) (some ad) n cp V rfl HFL.out (HR.out.imp id (fun ⟨g, o, e, hg, hr⟩ => ⟨ad, rfl, fun j u hj => by rw [Option.some.inj e, Addr.add_mid]; exact (HF2.out.range hr id) j u hj⟩)) HONE.out (by unfold maxLen; have := HB.out; omega) (by have := HB.out; omega) HF2.out.size ?_; intro a3 c3 w3 HO3 HG3 HA3))
  go_ret
  refine ⟨_, rfl, ?_, HF2.out.grown HG3.out (fun k e => .inr (by cases e; exact Nat.le_refl _))⟩
  exact own_sl HO3.out L HV.out HNN.out HL.out.1 HL.out.2.1 HL.out.2.2 HB.out.2
theorem wp_setV {P : Program} {op : Oper} {a : Act} {w : World} {K : Act → World → Prop} {Q : Exit → Act → World → Prop} (ty : TypeId) (x y : Operand) (ho : op.op = .store ty x y) (b o : Nat) (v : Value) (hx : a.eval x = .pointer (some ⟨b, o, none⟩)) (hy : a.eval y = v) (hv : v.cells = #[v]) (h1 : v.oneCell' = true)
  (t : TypeId) (cs : List Value) (hB : Blk w b t cs) (hle : o < cs.length) (hi : (P.info? ty).map (·.size) = some 1)
  (h : ∀ w', Hid (Blk w' b t (cs.set o v)) → Hid (Fr (fun k => k = b) w w') → Hid (w'.heap.size = w.heap.size) → K (a.put op.dst undef) w') : op.wp P a w K Q :=
 wp_storeV ty x y ho b o v [v] hx hy (by rw [hv]) t cs hB (by simp; omega) hi (by simpa using h1) fun w' h2 h3 h4 => h w' (by
  rw [← spl_nil (cs.set o v) (o + 1), spl_cons _ _ _ _ hle]; exact h2) h3 h4
theorem copied_any {S : Nat → Prop} (c : Cl) (v1 v2 : Value) (w : World) (h1 : LsIn S w v1 c.must) (h2 : LsIn S w v2 c.may) (hb : LB c) :
  Calls Tryz.prog 19 #[.agg (clV c v1 v2).toArray] w fun e w' => ∃ u1 u2, e = .returned (.agg (clV c u1 u2).toArray) ∧ LsIn (fun i => w.heap.size ≤ i) w' u1 c.must ∧ LsIn (fun i => w.heap.size ≤ i) w' u2 c.may ∧ Fr No w w' := by
 have H1 := hid (fun w' (hf : Fr No w w') => cloneS_any v1 c.must w' (LsIn.fr (D := No) h1 hf (fun _ _ _ e => e)) hb.1)
 have H2 := hid (fun w' (hf : Fr No w w') => cloneS_any v2 c.may w' (LsIn.fr (D := No) h2 hf (fun _ _ _ e => e)) hb.2)
 obtain ⟨a1, c1, e1, -⟩ := h1.form
 obtain ⟨a2, c2, e2, -⟩ := h2.form
 obtain ⟨n1, hn1⟩ : ∃ n, c.must.length = n := ⟨_, rfl⟩
 obtain ⟨n2, hn2⟩ : ∃ n, c.may.length = n := ⟨_, rfl⟩
 rw [hn1] at e1; rw [hn2] at e2
 subst e1 e2
 clear h1 h2 hb hn1 hn2
 go_enter Tryz.func19, Tryz.ntmps19
 go_wp2_with (first
  | ((with_reducible refine K.atO (.box 55 _) ?_); refine wpL_box rfl _ _ rfl _ rfl (clV c (.slice a1 n1 c1) (.slice a2 n2 c2)) rfl ?_; intro w1 HB1 HF1 HS1)
  | ((with_reducible refine K.atO (.alloc 55) ?_); refine wpL_alloc rfl _ rfl _ zeroCl _ rfl ?_; intro w2 HB2 HF2 HS2))
 obtain ⟨g, hg⟩ : ∃ g, w.heap.size = g := ⟨_, rfl⟩
 obtain ⟨r, hr⟩ : ∃ r, w1.heap.size = r := ⟨_, rfl⟩
 have HG := hid (show g < r ∧ w.heap.size = g from ⟨by have := HS1.out; omega, hg⟩)
 rw [hg] at HB1 ⊢
 rw [hr] at HB2 ⊢
 have HBg := hid (HB1.out.fr HF2.out id)
 have HFr2 := hid (HF1.out.trans' HF2.out)
 have HL2 := hid (show w2.heap.size = r + 1 by have := HS2.out; omega)
 clear hg hr HB1
 have d1 : w2.cell? ⟨g, 3, none⟩ = some (.slice a1 n1 c1) := HBg.out.cell 3
 have d2 : w2.cell? ⟨g, 4, none⟩ = some (.slice a2 n2 c2) := HBg.out.cell 4
 have hold : Facts.hold [(1, fun w' => w'.cell? ⟨g, 3, none⟩ = some (.slice a1 n1 c1)), (4, fun w' => w'.cell? ⟨g, 4, none⟩ = some (.slice a2 n2 c2))] w2.drew := Facts.cons_hold d1 (Facts.cons_hold d2 (Facts.nil_hold _))
 refine wpD_region hold (by kernel_rfl) 10 rfl ?_
 (refine K.pl 0 (v := ?_) rfl ?_ ?_; rotate_left; (intro; go_simp; try with_reducible rfl); simp only [K.pu])
 (refine K.pl 3 (v := ?_) rfl ?_ ?_; rotate_left; (intro; go_simp; try with_reducible rfl); simp only [K.pu])
 (refine K.tk 1 _ rfl K.m0 (v := ?_) ?_ ?_; rotate_left; (intro _ _hw; go_simp; try with_reducible rfl); simp only [K.pu])
 (refine K.tk 4 _ rfl K.m1 (v := ?_) ?_ ?_; rotate_left; (intro _ _hw; go_simp; try with_reducible rfl); simp only [K.pu])
 clear hold
 refine K.on 2 [(4, fun w' => w'.cell? ⟨g, 4, none⟩ = some (.slice a2 n2 c2))] rfl (fun K2 hK2 => ?_)
 refine wp_call _ _ _ rfl 45 [] rfl (fun vs w => by kernel_rfl) [.slice a1 n1 c1] (by rfl) ?_
 refine (H1.out w2.drew HFr2.out.drew).mono ?_
 rintro e w3 ⟨u1, rfl, hu1, f3⟩
 have HBg3 := hid (Blk.fr (w := w2.drew) HBg.out f3 id)
 have HBr3 := hid (Blk.fr (w := w2.drew) HB2.out f3 id)
 have HFr3 := hid (HFr2.out.drew.trans' f3)
 have HS3 := hid (show r + 1 ≤ w3.heap.size from Nat.le_trans (Nat.le_of_eq HL2.out.symm) f3.size)
 have HU1 : Hid (LsIn (fun i => r + 1 ≤ i) w3 u1 c.must) := hid (LsIn.mono hu1 (fun i hi _ => Nat.le_trans (Nat.le_of_eq HL2.out.symm) hi))
 refine ⟨_, rfl, hK2 _ _ (Facts.cons_hold (HBg3.out.cell 4) (Facts.nil_hold _)) ?_⟩
 clear hK2 K2 f3 hu1 d1 d2
 simp only [K.pu]
 have hold : Facts.hold [(4, fun w' => w'.cell? ⟨g, 4, none⟩ = some (.slice a2 n2 c2))] w3 := Facts.cons_hold (HBg3.out.cell 4) (Facts.nil_hold _)
 (refine K.pl 6 (v := ?_) rfl ?_ ?_; rotate_left; (intro; go_simp; try with_reducible rfl); simp only [K.pu])
 clear hold
 refine K.on 5 [] rfl (fun K5 hK5 => ?_)
 refine wp_call _ _ _ rfl 45 [] rfl (fun vs w => by kernel_rfl) [.slice a2 n2 c2] (by rfl) ?_
 refine (H2.out w3 HFr3.out).mono ?_
 rintro e w4 ⟨u2, rfl, hu2, f4⟩
 have HBg4 := hid (HBg3.out.fr f4 id)
 have HBr4 := hid (HBr3.out.fr f4 id)
 have HFr4 := hid (HFr3.out.trans' f4)
 have HU14 : Hid (LsIn (fun i => r + 1 ≤ i) w4 u1 c.must) := hid (LsIn.fr (D := No) HU1.out f4 (fun _ _ _ e => e))
 have HU24 : Hid (LsIn (fun i => r + 1 ≤ i) w4 u2 c.may) := hid (LsIn.mono hu2 (fun i hi _ => Nat.le_trans HS3.out hi))
 have HO1 : Hid (u1.oneCell' = true ∧ u1.cells = #[u1]) := hid (by obtain ⟨a, cp, rfl, -⟩ := HU14.out.form; exact ⟨rfl, rfl⟩)
 have HO2 : Hid (u2.oneCell' = true ∧ u2.cells = #[u2]) := hid (by obtain ⟨a, cp, rfl, -⟩ := HU24.out.form; exact ⟨rfl, rfl⟩)
 refine ⟨_, rfl, hK5 _ _ (Facts.nil_hold _) ?_⟩
 clear hK5 K5 f4 hu2 HU1 HBg3 HBr3
 simp only [K.pu]
 refine K.on 7 [] rfl (fun K7 hK7 => ?_)
 refine wp_setV _ _ _ rfl g 3 u1 rfl rfl HO1.out.2 HO1.out.1 55 _ HBg4.out (by simp [clV]) infoSs ?_
 intro w5 HB5 F5 HS5
 have HBr5 := hid (HBr4.out.fr F5.out (by show ¬ r = g; have := HG.out; omega))
 have HFr5 := hid (HFr4.out.trans F5.out (fun k e => .inr (by have e : k = g := e; have := HG.out; omega)))
 have HU15 : Hid (LsIn (fun i => r + 1 ≤ i) w5 u1 c.must) := hid (LsIn.fr (D := fun k => k = g) HU14.out F5.out (fun i hi _ e => by have e : i = g := e; have hi : r + 1 ≤ i := hi; have := HG.out; omega))
 have HU25 : Hid (LsIn (fun i => r + 1 ≤ i) w5 u2 c.may) := hid (LsIn.fr (D := fun k => k = g) HU24.out F5.out (fun i hi _ e => by have e : i = g := e; have hi : r + 1 ≤ i := hi; have := HG.out; omega))
 refine hK7 _ _ (Facts.nil_hold _) ?_
 clear hK7 K7 HBr4 HBg4 HU14 HU24
 simp only [K.pu]
 have hold : Facts.hold [] w5 := Facts.nil_hold _
 (refine K.pl 8 (v := ?_) rfl ?_ ?_; rotate_left; (intro; go_simp; try with_reducible rfl); simp only [K.pu])
 clear hold
 refine K.on 9 [] rfl (fun K9 hK9 => ?_)
 refine wp_setV _ _ _ rfl g 4 u2 rfl rfl HO2.out.2 HO2.out.1 55 _ HB5.out (by simp [clV]) infoSs ?_
 intro w6 HB6 F6 HS6
 have HBr6 := hid (HBr5.out.fr F6.out (by show ¬ r = g; have := HG.out; omega))
 have HFr6 := hid (HFr5.out.trans F6.out (fun k e => .inr (by have e : k = g := e; have := HG.out; omega)))
 have HU16 : Hid (LsIn (fun i => r + 1 ≤ i) w6 u1 c.must) := hid (LsIn.fr (D := fun k => k = g) HU15.out F6.out (fun i hi _ e => by have e : i = g := e; have hi : r + 1 ≤ i := hi; have := HG.out; omega))
 have HU26 : Hid (LsIn (fun i => r + 1 ≤ i) w6 u2 c.may) := hid (LsIn.fr (D := fun k => k = g) HU25.out F6.out (fun i hi _ e => by have e : i = g := e; have hi : r + 1 ≤ i := hi; have := HG.out; omega))
 have HB6' : Hid (Blk w6 g 55 (clV c u1 u2)) := hid HB6.out
 refine hK9 _ _ (Facts.nil_hold _) ?_
 clear hK9 K9 HBr5 HB5 HU15 HU25 HB6
 simp only [K.pu]
 refine wpD_done (by kernel_rfl) ?_ _
 have HR6 : Hid (w6.rangeAt g 0 (clV c u1 u2)) := hid (HB6'.out.range 0 _ (by rw [List.drop_zero, List.take_length]))
 have HONE : Hid (∀ v ∈ clV c u1 u2, v.oneCell' = true) := hid (oneCl c HO1.out.1 HO2.out.1)
 go_wp2_with (first
  | ((with_reducible refine K.atO (.load 55 _) ?_); refine wpL_load rfl _ _ rfl g 0 rfl (clV c u1 u2) _ HR6.out rfl rfl infoCl ?_)
  | ((with_reducible refine K.atO (.store 55 _ _) ?_); refine wpL_store rfl _ _ _ rfl r 0 (clV c u1 u2) rfl rfl 55 _ HBr6.out (by simp [clV]) infoCl HONE.out ?_; intro w7 HB7 F7 HS7))
 have HFr7 := hid (HFr6.out.trans F7.out (fun k e => .inr (by have e : k = r := e; have := HG.out; omega)))
 have HB7' : Hid (Blk w7 r 55 (clV c u1 u2)) := hid HB7.out
 have hlo : ∀ i, r + 1 ≤ i → w.heap.size ≤ i := fun i hi => by have := HG.out; omega
 refine ret_cell rfl _ rfl HB7'.out rfl rfl infoCl rfl ?_
 exact ⟨u1, u2, rfl, LsIn.mono (LsIn.fr (D := fun k => k = r) HU16.out F7.out (fun i hi _ e => by have e : i = r := e; have hi : r + 1 ≤ i := hi; omega)) (fun i hi _ => hlo i hi),
  LsIn.mono (LsIn.fr (D := fun k => k = r) HU26.out F7.out (fun i hi _ e => by have e : i = r := e; have hi : r + 1 ≤ i := hi; omega)) (fun i hi _ => hlo i hi), HFr7.out⟩
def Nw (base b4 : Nat) (v : Value) : Nat → Prop := fun k => base ≤ k ∧ k ≠ b4 ∧ some k ≠ v.ownBlock
structure Md (base b4 : Nat) (w : World) (v : Value) (i : Nat) (Y : List Cl) (tv : Value) (X : List Ty) (L : List (List Value)) : Prop where
 own : w.ownsRow base 55 5 v i L.flatten
 len : L.length = i
 five : ∀ c ∈ L, c.length = 5
 cls : ∀ (j : Nat) (x : Cl) (c : List Value), (Y.take i)[j]? = some x → L[j]? = some c → ClC (Nw base b4 v) w x c
 tys : TysIn (Nw base b4 v) w tv X
 b4 : v.ownBlock ≠ some b4
theorem Md.start {base b4 : Nat} {w : World} {Y : List Cl} {tv : Value} {X : List Ty} (h : TysIn (fun k => base ≤ k ∧ k ≠ b4) w tv X) : Md base b4 w (.slice none 0 0) 0 Y tv X [] :=
 ⟨⟨rfl, .inl ⟨rfl, rfl⟩⟩, rfl, (fun c hc => by cases hc), (fun j x c hx => by simp at hx), TysIn.mono h (fun i hi _ => ⟨hi.1, hi.2, fun e => by cases e⟩), fun e => by cases e⟩
theorem Md.no {base b4 : Nat} {w w' : World} {v : Value} {i : Nat} {Y : List Cl} {tv : Value} {X : List Ty} {L : List (List Value)} (h : Md base b4 w v i Y tv X L) (hf : Fr No w w') : Md base b4 w' v i Y tv X L :=
 ⟨own_fr h.own hf (fun _ _ e => e), h.len, h.five, fun j x c hx hc => (h.cls j x c hx hc).fr hf (fun _ _ _ e => e), h.tys.fr hf (fun _ _ _ e => e), h.b4⟩
theorem Md.step {base b4 : Nat} {w w3 w4 : World} {v v' : Value} {i : Nat} {Y : List Cl} {tv : Value} {X : List Ty} {L : List (List Value)} {x : Cl} {cs : List Value} (h : Md base b4 w v i Y tv X L) (hx : Y[i]? = some x) (hf : Fr No w w3) (hb : base ≤ w.heap.size) (hb4 : b4 < w.heap.size)
  (hc : ClC (fun k => w.heap.size ≤ k) w3 x cs) (h5 : cs.length = 5) (hg : w3.grownBy w4 v.ownBlock) (ho : w4.ownsRow base 55 5 v' (i + 1) (L.flatten ++ cs)) (hv : v'.ownBlock = v.ownBlock ∨ v'.ownBlock = some w3.heap.size) :
  Md base b4 w4 v' (i + 1) Y tv X (L ++ [cs]) := by
 have hown : ∀ g, v.ownBlock = some g → g < w.heap.size := fun g e => (own_ge h.own g e).2
 have hFg : Fr (fun k => v.ownBlock = some k) w3 w4 := (Fr.refl _ w3).grown hg (fun k e => .inl e)
 have hS : ∀ k, Nw base b4 v k → k < w3.heap.size → Nw base b4 v' k := fun k ⟨k1, k2, k3⟩ hk => ⟨k1, k2, by
  rcases hv with e | e
  ·rw [e]; exact k3
  ·rw [e]; intro e2; cases e2; omega⟩
 have hS2 : ∀ k, Nw base b4 v k → k < w3.heap.size → Nw base b4 v k ∧ Nw base b4 v' k := fun k hk hs => ⟨hk, hS k hk hs⟩
 have hno : ∀ k, (Nw base b4 v k ∧ Nw base b4 v' k) → k < w3.heap.size → ¬ v.ownBlock = some k := fun k hk _ e => hk.1.2.2 e.symm
 have hnew : ∀ k, w.heap.size ≤ k → k < w3.heap.size → Nw base b4 v k := fun k hk _ => ⟨by omega, by omega, fun e => by have := hown k e.symm; omega⟩
 have hall : ∀ y c, ClC (Nw base b4 v) w3 y c → ClC (Nw base b4 v') w4 y c := fun y c hy => ((hy.mono hS2).fr hFg hno).mono (fun _ hk _ => hk.2)
 refine ⟨by rw [List.flatten_append, List.flatten_singleton]; exact ho, by rw [List.length_append, h.len]; rfl, fun c hcm => ?_, fun j y c hy hcj => ?_, ?_, ?_⟩
 ·rcases List.mem_append.1 hcm with hcm | hcm
  ·exact h.five c hcm
  ·rw [List.mem_singleton.1 hcm]; exact h5
 ·by_cases hj : j < i
  ·rw [List.getElem?_append_left (by rw [h.len]; exact hj)] at hcj
   rw [List.getElem?_take, if_pos (by omega)] at hy
   exact hall y c ((h.cls j y c (by rw [List.getElem?_take, if_pos hj]; exact hy) hcj).fr hf (fun _ _ _ e => e))
  ·rw [List.getElem?_append_right (by rw [h.len]; omega), h.len] at hcj
   have hji : j = i := by
    have := (List.getElem?_eq_some_iff.1 hcj).1
    simp at this
    omega
   subst hji
   rw [Nat.sub_self] at hcj
   obtain rfl : cs = c := by simpa using hcj
   rw [List.getElem?_take, if_pos (by omega), hx] at hy
   cases hy
   exact hall _ _ (hc.mono hnew)
 ·exact ((TysIn.mono (h.tys.fr hf (fun _ _ _ e => e)) hS2).fr hFg hno).mono (fun _ hk _ => hk.2)
 ·rcases hv with e | e
  ·rw [e]; exact h.b4
  ·rw [e]
   intro e2
   cases e2
   have := hf.size
   omega
theorem own_sl_S {α : Type} {k base : Nat} {p : α → List Value → Prop} {S : Nat → Prop} {w : World} {e : TypeId} {v : Value} {n : Nat} {cells : List Value} {xs : List α} (h : w.ownsRow base e k v n cells) (L : List (List Value)) (hL : L.flatten = cells) (hn : xs.length = n) (hLx : L.length = n) (hk : ∀ c ∈ L, c.length = k) (hp : ∀ (j : Nat) (x : α) (c : List Value), xs[j]? = some x → L[j]? = some c → p x c) (hb : n ≤ 140737488351232) (hS : ∀ g, v.ownBlock = some g → S g) :
  Sl k p S w v xs := by
 rcases h.2 with ⟨rfl, rfl⟩ | ⟨g, cap, cur, rfl, hbg, hg, h1, h2, h3, h4⟩
 ·obtain rfl : xs = [] := List.eq_nil_of_length_eq_zero hn
  exact ⟨none, 0, rfl, Nat.le_refl _, by simp, .inl rfl⟩
 ·refine ⟨_, cap, by rw [hn], by rw [hn]; exact h1, by rw [hn]; exact hb, ?_⟩
  by_cases hx : xs = []
  ·exact .inl hx
  ·right
   refine ⟨g, 0, L, rfl, hS g rfl, (Array.getElem?_eq_some_iff.1 hg).1, ?_, by rw [hLx, hn], hk, hp⟩
   intro j u hj
   rw [hL] at hj
   have := h.cells (g := g) rfl j u hj
   rwa [Addr.add_mid] at this
theorem Md.set {base b4 : Nat} {w w' : World} {v : Value} {i : Nat} {Y : List Cl} {tv : Value} {X : List Ty} {L : List (List Value)} (h : Md base b4 w v i Y tv X L) (hf : Fr (fun k => k = b4) w w') : Md base b4 w' v i Y tv X L :=
 ⟨own_fr h.own hf (fun k e e2 => h.b4 (by have e2 : k = b4 := e2; rw [e, e2])), h.len, h.five, fun j x c hx hc => (h.cls j x c hx hc).fr hf (fun k hk _ e => hk.2.1 e), h.tys.fr hf (fun k hk _ e => hk.2.1 e), h.b4⟩
theorem infoCs : (Tryz.prog.info? 23).map (·.size) = some 1 := by kernel_rfl
theorem zeroSc : ∀ w, (zeroValue 25).run Tryz.prog w = .ok (.agg #[.slice none 0 0, .slice none 0 0]) w := fun _ => by kernel_rfl
theorem exec_buildSc {op : Oper} {a : Act} (x : Operand) (ho : op.op = .build 25 #[(0, x)]) (ad : Option Addr) (n c : Nat) (hx : a.eval x = .slice ad n c) (w : World) : (execOp a.eval op).run Tryz.prog w = .ok (.value (.agg #[.slice ad n c, .slice none 0 0])) w := by
 have h : (Instr.build 25 #[(0, .slice ad n c)]).run Tryz.prog w = .ok (.agg #[.slice ad n c, .slice none 0 0]) w := by kernel_rfl
 simp [execOp, ho, hx, h, Result.andThen]
theorem exec_buildS {op : Oper} {a : Act} (x : Operand) (ho : op.op = .build 71 #[(0, x)]) (u v : Value) (hx : a.eval x = .agg #[u, v]) (w : World) : (execOp a.eval op).run Tryz.prog w = .ok (.value (.agg (schV u v 0 0 (.map none) (.map none)).toArray)) w := by
 have h : (Instr.build 71 #[(0, .agg #[u, v])]).run Tryz.prog w = .ok (.agg (schV u v 0 0 (.map none) (.map none)).toArray) w := by kernel_rfl
 simp [execOp, ho, hx, h, Result.andThen]
theorem okS_b {s : Sch} (h : okS s = true) : 1 ≤ s.tys.length ∧ s.tys.length ≤ 40 ∧ s.cls.length ≤ 20 := by
 unfold okS at h
 simp only [Bool.and_eq_true, decide_eq_true_eq] at h
 exact ⟨h.1.1.1, h.1.1.2, h.1.2⟩
theorem new_bad {S S2 : Nat → Prop} (vt vc : Value) (s : Sch) (w : World) (h : TysIn S w vt s.tys) (hy : ClsIn S2 w vc s.cls) (hk : okS s = false) :
  Calls Tryz.prog 6 #[.agg #[vt, vc]] w fun e w' => e = .returned (.tuple #[.pointer none, .int .i64 130]) ∧ Fr No w w' := by
 have HR := hid (fun w' (hf : Fr No w w') => isRight_any vt vc s w' (TysIn.fr (D := No) h hf (fun _ _ _ e => e)) (ClsIn.fr (D := No) hy hf (fun _ _ _ e => e)))
 rw [hk] at HR
 obtain ⟨a, cp, rfl, -⟩ := h.form
 obtain ⟨a2, cp2, rfl, -⟩ := hy.form
 generalize s.tys.length = n at HR ⊢
 generalize s.cls.length = m at HR ⊢
 clear h hy hk
 go_enter Tryz.func6, Tryz.ntmps6
 go_wp2_with (first
  | ((with_reducible refine K.atO (.box 25 _) ?_); refine wpL_box rfl _ _ rfl _ rfl [.slice a n cp, .slice a2 m cp2] rfl ?_; intro w1 HB1 HF1 HS1)
  | ((with_reducible refine K.atO (.load 25 _) ?_); refine wpL_load rfl _ _ rfl w.heap.size 0 rfl [.slice a n cp, .slice a2 m cp2] _ (HB1.out.range 0 _ rfl) rfl rfl infoSc ?_))
 refine (HR.out w1 HF1.out).mono ?_
 rintro e w2 ⟨rfl, f2⟩
 have HF2 := hid (HF1.out.trans' f2)
 clear f2
 go_wp2_with fail
 go_ret2
 exact ⟨rfl, HF2.out⟩
theorem new_ok {S S2 : Nat → Prop} (vt vc : Value) (s : Sch) (w : World) (h : TysIn S w vt s.tys) (hy : ClsIn S2 w vc s.cls) (hk : okS s = true) :
  Calls Tryz.prog 6 #[.agg #[vt, vc]] w fun e w' => ∃ b, e = .returned (.tuple #[.pointer (some ⟨b, 0, none⟩), .int .i64 0]) ∧ Sx w' (fun k => k < w.heap.size) b s ∧ Fr No w w' := by
 have HR := hid (fun w' (hf : Fr No w w') => isRight_any vt vc s w' (TysIn.fr (D := No) h hf (fun _ _ _ e => e)) (ClsIn.fr (D := No) hy hf (fun _ _ _ e => e)))
 rw [hk] at HR
 have HK := hid hk
 obtain ⟨hk1, hk2, hk3⟩ := okS_b hk
 have HCl := hid (fun w' (hf : Fr No w w') => cloneTy_any vt s.tys w' (TysIn.fr (D := No) h hf (fun _ _ _ e => e)) (by omega))
 have HY := hid hy
 obtain ⟨a, cp, rfl, -⟩ := h.form
 obtain ⟨a2, cp2, rfl, hcp2, -⟩ := hy.form
 obtain ⟨n, hn⟩ : ∃ n, s.tys.length = n := ⟨_, rfl⟩
 obtain ⟨m, hm⟩ : ∃ m, s.cls.length = m := ⟨_, rfl⟩
 have HMM := hid hm
 rw [hn] at HR HCl ⊢
 rw [hm] at HR HY hk3 hcp2 ⊢
 have hmi : (m : Int) ≤ 20 := by omega
 obtain ⟨ic, hic, hzc, hsc, hbc⟩ := info_ex infoCl3
 have IC := hid hic; have ZC := hid hzc; have SC := hid hsc; have BC := hid hbc
 obtain ⟨base, hbase⟩ : ∃ b, w.heap.size = b := ⟨_, rfl⟩
 have HBASE := hid hbase
 clear h hy hk hk1 hk2 hn hm hic hzc hsc hbc hk3 hcp2 hbase
 go_enter Tryz.func6, Tryz.ntmps6
 go_wp2_with (first
  | ((with_reducible refine K.atO (.box 25 _) ?_); refine wpL_box rfl _ _ rfl _ rfl [.slice a n cp, .slice a2 m cp2] rfl ?_; intro w1 HB1 HF1 HS1)
  | ((with_reducible refine K.atO (.load 25 _) ?_); refine wpL_load rfl _ _ rfl w.heap.size 0 rfl [.slice a n cp, .slice a2 m cp2] _ (HB1.out.range 0 _ rfl) rfl rfl infoSc ?_))
 rw [HBASE.out] at HB1 ⊢
 have HS1' : Hid (w1.heap.size = base + 1) := hid (by rw [HS1.out, HBASE.out])
 clear HS1
 refine (HR.out w1 HF1.out).mono ?_
 rintro e w2 ⟨rfl, f2⟩
 have HF2 := hid (HF1.out.trans' f2)
 have HB2 := hid (HB1.out.fr f2 id)
 have HS2 : Hid (base + 1 ≤ w2.heap.size) := hid (Nat.le_trans (Nat.le_of_eq HS1'.out.symm) f2.size)
 clear f2 HB1 HF1 HS1'
 have d0 : w2.cell? ⟨base, 0, none⟩ = some (.slice a n cp) := HB2.out.cell 0
 go_wp2_with fail
 refine (HCl.out w2 HF2.out).mono ?_
 rintro e w3 ⟨tv, rfl, htv, f3⟩
 have HTV := hid htv
 have HF3 := hid (HF2.out.trans' f3)
 have HB3 := hid (HB2.out.fr f3 id)
 have HS3 : Hid (w2.heap.size ≤ w3.heap.size) := hid f3.size
 obtain ⟨ta, tc, rfl, -⟩ := htv.form
 obtain ⟨tn, htn⟩ : ∃ k, s.tys.length = k := ⟨_, rfl⟩
 rw [htn] at HTV ⊢
 clear f3 HB2 HF2 d0 htv htn
 go_wp2_with (first
  | ((with_reducible refine K.atO (.build 25 _) ?_); refine wpL_valZ rfl (.agg #[.slice ta tn tc, .slice none 0 0]) (exec_buildSc _ rfl ta tn tc rfl w3) ?_)
  | ((with_reducible refine K.atO (.alloc 25) ?_); refine wpL_alloc rfl _ rfl _ zeroSc _ rfl ?_; intro w4 HB4 HF4 HS4)
  | ((with_reducible refine K.atO (.store 25 _ _) ?_); refine wpL_store rfl _ _ _ rfl w3.heap.size 0 [.slice ta tn tc, .slice none 0 0] rfl rfl 25 _ HB4.out (by simp) infoSc (by simp [Value.oneCell']) ?_; intro w5 HB5 HF5 HS5; refine Hid.out ?_))
 obtain ⟨b4, hb4⟩ : ∃ b, w3.heap.size = b := ⟨_, rfl⟩
 have HB34 := hid (show base + 1 ≤ b4 ∧ w4.heap.size = b4 + 1 ∧ w5.heap.size = b4 + 1 from by have := HS2.out; have := HS3.out; have := HS4.out; have := HS5.out; omega)
 have HTV5 : Hid (TysIn (fun k => base ≤ k ∧ k ≠ b4) w5 (.slice ta tn tc) s.tys) := hid (by
  have h1 := TysIn.mono (S' := fun k => base ≤ k ∧ k ≠ b4) HTV.out (fun i hi hlt => ⟨by have hi : w2.heap.size ≤ i := hi; have := HS2.out; omega, by omega⟩)
  exact (TysIn.fr (D := No) h1 HF4.out (fun _ _ _ e => e)).fr HF5.out (fun i hi _ e => hi.2 (by have e : i = w3.heap.size := e; omega)))
 have HB5s : Hid (Blk w5 b4 25 [.slice ta tn tc, .slice none 0 0]) := hid (by rw [← hb4]; exact HB5.out)
 have HF5s : Hid (Fr No w w5) := hid ((HF3.out.trans' HF4.out).trans HF5.out (fun k e => .inr (by have e : k = w3.heap.size := e; have := HF3.out.size; omega)))
 have HB1s : Hid (Blk w5 base 25 [.slice a n cp, .slice a2 m cp2]) := hid ((HB3.out.fr HF4.out id).fr HF5.out (by show ¬ base = w3.heap.size; have := HB34.out; omega))
 rw [hb4]
 clear hb4 HB4 HF4 HS4 HB5 HF5 HS5 HTV HS3 HS2 HF3 HB3
 have d1 : w5.cell? ⟨base, 1, none⟩ = some (.slice a2 m cp2) := HB1s.out.cell 1
 refine hid ?_
 go_wp2_with fail
 clear d1
 go_loopw [17] (fun iv wr => ∃ (i : Nat) (va : Option Addr) (vcp : Nat) (L : List (List Value)), iv = .int .i64 i ∧ i ≤ m ∧ Hid (Blk wr b4 25 [.slice ta tn tc, .slice va i vcp]) ∧ Hid (Md base b4 wr (.slice va i vcp) i s.cls (.slice ta tn tc) s.tys L) ∧ Hid (Fr No w wr ∧ b4 < wr.heap.size)) (fun iv _ => m - (intOf iv).toNat)
 case atStart => exact ⟨0, none, 0, [], rfl, Nat.zero_le _, HB5s, hid (Md.start HTV5.out), hid ⟨HF5s.out, by have := HB34.out; omega⟩⟩
 case round =>
  obtain ⟨i, va, vcp, L, rfl, hi, HBr, HM, HF⟩ := hrel
  by_cases hlt : i < m
  ·obtain ⟨c, hc⟩ : ∃ c, s.cls[i]? = some c := ⟨_, List.getElem?_eq_getElem (by rw [HMM.out]; exact hlt)⟩
   have HCI := hid hc
   have hlti : (i : Int) < m := by omega
   have hi0 : (0 : Int) ≤ i := by omega
   obtain ⟨g, o, cq, cs, e1, -, -, hr, -, hp⟩ := (ClsIn.fr (D := No) HY.out HF.out.1 (fun _ _ _ e => e)).get hc
   rw [HMM.out] at e1
   obtain ⟨rfl, rfl⟩ := K.sj e1
   obtain ⟨v1, v2, rfl, hz1, hz2, hv1, hv2, hlb⟩ := hp
   have HRR := hid hr; have HV1 := hid hv1; have HV2 := hid hv2; have HLB := hid hlb; have HZ := hid (show Sz c.nm ∧ Sz c.sup from ⟨hz1, hz2⟩)
   have HONE : Hid (∀ v ∈ clV c v1 v2, v.oneCell' = true) := hid (oneCl c (by obtain ⟨a, cp, rfl, -⟩ := hv1.form; rfl) (by obtain ⟨a, cp, rfl, -⟩ := hv2.form; rfl))
   have HLT := hid hlt
   clear hr hv1 hv2 hlb hz1 hz2 hc hi hlt
   go_wp2_with (first
    | ((with_reducible refine K.atO (.load 55 _) ?_); refine wpL_load rfl _ _ rfl g (o + i * 5) rfl (clV c v1 v2) _ HRR.out rfl rfl infoCl ?_)
    | ((with_reducible refine K.atO (.alloc 55) ?_); refine wpL_alloc rfl _ rfl _ zeroCl _ rfl ?_; intro y2 HB2 HF2 HS2)
    | ((with_reducible refine K.atO (.store 55 _ _) ?_); refine wpL_store rfl _ _ _ rfl wr.heap.size 0 (clV c v1 v2) rfl rfl 55 _ HB2.out (by simp [clV]) infoCl HONE.out ?_; intro y3 HB3 HF3 HS3))
   have HFR3 : Hid (Fr No wr y3) := hid (HF2.out.trans HF3.out fun k e => .inr (by have e : k = wr.heap.size := e; omega))
   obtain ⟨q, hq⟩ : ∃ q, wr.heap.size = q := ⟨_, rfl⟩
   have HQ := hid hq
   rw [hq] at HB3 ⊢
   have HBK : Hid (Blk y3 q 55 (clV c v1 v2)) := hid HB3.out
   have HBr3 := hid (HBr.out.fr HFR3.out id)
   clear hq HB3 HB2 HF2 HF3 HS2 HS3
   have c1 : y3.cell? ⟨b4, 1, none⟩ = some (.slice va i vcp) := HBr3.out.cell 1
   have c2 : y3.rangeAt q 0 (clV c v1 v2) := HBK.out.range 0 _ (by rw [List.drop_zero, List.take_length])
   have hold : Facts.hold [(1, fun w' => w'.cell? ⟨b4, 1, none⟩ = some (.slice va i vcp)), (2, fun w' => w'.rangeAt q 0 (clV c v1 v2))] y3.drew := Facts.cons_hold c1 (Facts.cons_hold c2 (Facts.nil_hold _))
   refine wpD_region hold (by kernel_rfl) 8 rfl ?_
   (refine K.pl 0 (v := ?_) rfl ?_ ?_; rotate_left; (intro; go_simp; try with_reducible rfl); simp only [K.pu])
   (refine K.tk 1 _ rfl K.m0 (v := ?_) ?_ ?_; rotate_left; (intro _ _hw; go_simp; try with_reducible rfl); simp only [K.pu])
   (refine K.tk 2 _ rfl K.m1 (exec_load _ _ rfl q 0 rfl _ _ rfl rfl infoCl) ?_; simp only [K.pu])
   clear hold
   refine K.on 3 [(1, fun w' => w'.cell? ⟨b4, 1, none⟩ = some (.slice va i vcp))] rfl (fun K3 hK3 => ?_)
   refine wp_call _ _ _ rfl 19 [] rfl (fun vs w => by kernel_rfl) [.agg (clV c v1 v2).toArray] (by rfl) ?_
   refine (copied_any c v1 v2 y3.drew (LsIn.fr (D := No) HV1.out HFR3.out.drew (fun _ _ _ e => e)) (LsIn.fr (D := No) HV2.out HFR3.out.drew (fun _ _ _ e => e)) HLB.out).mono ?_
   rintro e y4 ⟨u1, u2, rfl, hu1, hu2, f4⟩
   have HU := hid (show LsIn (fun k => wr.heap.size ≤ k) y4 u1 c.must ∧ LsIn (fun k => wr.heap.size ≤ k) y4 u2 c.may from
    ⟨LsIn.mono hu1 (fun k hk _ => Nat.le_trans HFR3.out.size hk), LsIn.mono hu2 (fun k hk _ => Nat.le_trans HFR3.out.size hk)⟩)
   have HOU : Hid (∀ v ∈ clV c u1 u2, v.oneCell' = true) := hid (oneCl c (by obtain ⟨a, cp, rfl, -⟩ := hu1.form; rfl) (by obtain ⟨a, cp, rfl, -⟩ := hu2.form; rfl))
   have HFR4 := hid (HFR3.out.drew.trans' f4)
   have c14 : y4.cell? ⟨b4, 1, none⟩ = some (.slice va i vcp) := f4.cell (show y3.drew.cell? _ = _ from c1) id
   refine ⟨_, rfl, hK3 _ _ (Facts.cons_hold c14 (Facts.nil_hold _)) ?_⟩
   clear hK3 K3 f4 hu1 hu2 c1 c2
   simp only [K.pu]
   refine K.on 4 [(1, fun w' => w'.cell? ⟨b4, 1, none⟩ = some (.slice va i vcp))] rfl (fun K4 hK4 => ?_)
   refine wp_buildOne _ 55 _ rfl ic _ Tryz.underlying23 IC.out ZC.out (by rw [SC.out]; decide) (by rw [SC.out]; decide) (.agg (clV c u1 u2).toArray) (clV c u1 u2) rfl rfl (by rw [SC.out]; rfl) ?_
   intro y5 HB5 F5 HS5
   have HFR5 := hid (HFR4.out.trans' F5.out)
   have c15 : y5.cell? ⟨b4, 1, none⟩ = some (.slice va i vcp) := F5.out.cell c14 id
   refine hK4 _ _ (Facts.cons_hold c15 (Facts.nil_hold _)) ?_
   clear hK4 K4 c14
   simp only [K.pu]
   refine K.on 5 [] rfl (fun K5 hK5 => ?_)
   refine wp_append _ _ 23 rfl base 55 ic _ 5 88 Tryz.underlying23 IC.out ZC.out SC.out BC.out rfl (by decide) (.slice va i vcp) i L.flatten rfl (own_fr HM.out.own HFR5.out (fun _ _ e => e)) (some ⟨y4.heap.size, 0, none⟩) 1 1 (clV c u1 u2) rfl rfl (.inr ⟨_, rfl, HB5.out.news⟩) HOU.out (by unfold maxLen; have := HLT.out; omega) (by have := HLT.out; omega) (by have := HF.out.2; have := HB34.out; have := HFR5.out.size; omega) ?_
   intro a6 c6 y6 HO6 HG6 HA6
   have HBr6 : Hid (Blk y6 b4 25 [.slice ta tn tc, .slice va i vcp]) := hid ((HBr.out.fr HFR5.out id).grown HG6.out (fun e => HM.out.b4 e.symm))
   have HM6 : Hid (Md base b4 y6 (.slice a6 (i + 1) c6) (i + 1) s.cls (.slice ta tn tc) s.tys (L ++ [clV c u1 u2])) := hid (HM.out.step HCI.out HFR5.out (by have := HF.out.2; have := HB34.out; omega) HF.out.2
    (ClC.fr (D := No) (w := y4) ⟨u1, u2, rfl, HZ.out.1, HZ.out.2, HU.out.1, HU.out.2, HLB.out⟩ F5.out (fun _ _ _ e => e)) rfl HG6.out HO6.out HA6.out)
   have HF6 : Hid (Fr No w y6 ∧ b4 < y6.heap.size) := hid ⟨(HF.out.1.trans' HFR5.out).grown HG6.out (fun k e => .inr (by have := (own_ge HM.out.own k e).1; rw [HBASE.out]; exact this)), by have := HF.out.2; have := HFR5.out.size; have := HG6.out.size; omega⟩
   refine hK5 _ _ (Facts.nil_hold _) ?_
   clear hK5 K5 c15 HO6 HG6 HA6
   simp only [K.pu]
   have hold : Facts.hold [] y6 := Facts.nil_hold _
   (refine K.pl 6 (v := ?_) rfl ?_ ?_; rotate_left; (intro; go_simp; try with_reducible rfl); simp only [K.pu])
   clear hold
   refine K.on 7 [] rfl (fun K7 hK7 => ?_)
   refine wp_setV _ _ _ rfl b4 1 (.slice a6 (i + 1) c6) rfl rfl rfl rfl 25 _ HBr6.out (by simp) infoCs ?_
   intro y7 HB7 F7 HS7
   have HM7 := hid (HM6.out.set F7.out)
   have HBr7 : Hid (Blk y7 b4 25 [.slice ta tn tc, .slice a6 (i + 1) c6]) := hid HB7.out
   have HF7 : Hid (Fr No w y7 ∧ b4 < y7.heap.size) := hid ⟨HF6.out.1.trans F7.out (fun k e => .inr (by have e : k = b4 := e; rw [HBASE.out]; have := HB34.out; omega)), by have := HF6.out.2; have := HS7.out; omega⟩
   refine hK7 _ _ (Facts.nil_hold _) ?_
   clear hK7 K7 HB7 F7 HS7 HM6 HBr6 HF6
   simp only [K.pu]
   refine wpD_done (by kernel_rfl) ?_ _
   go_wp2_with fail
   refine ⟨⟨i + 1, a6, c6, _, by go_num, HLT.out, HBr7, HM7, HF7⟩, ?_⟩
   have := HLT.out
   simp [intOf]; omega
  ·obtain rfl : i = m := by omega
   have c0 : wr.rangeAt b4 0 [.slice ta tn tc, .slice va i vcp] := HBr.out.range 0 _ rfl
   go_wp2_with (first
    | ((with_reducible refine K.atO (.load 25 _) ?_); refine wpL_load rfl _ _ rfl b4 0 rfl [.slice ta tn tc, .slice va i vcp] _ c0 rfl rfl infoSc ?_)
    | ((with_reducible refine K.atO (.build 71 _) ?_); refine wpL_valZ rfl (.agg (schV (.slice ta tn tc) (.slice va i vcp) 0 0 (.map none) (.map none)).toArray) (exec_buildS _ rfl _ _ rfl wr) ?_)
    | ((with_reducible refine K.atO (.box 71 _) ?_); refine wpL_box rfl _ _ rfl _ rfl (schV (.slice ta tn tc) (.slice va i vcp) 0 0 (.map none) (.map none)) rfl ?_; intro z1 HZ1 FZ1 HSZ1))
   go_ret2
   have hfr : Fr No w z1 := HF.out.1.trans' FZ1.out
   refine ⟨wr.heap.size, rfl, ?_, hfr⟩
   have hM := HM.out
   have hout : ∀ k, Nw base b4 (.slice va i vcp) k → k < wr.heap.size → Out (fun k => k < w.heap.size) wr.heap.size k := fun k hk hs => ⟨by have h1 := hk.1; rw [HBASE.out]; omega, by omega⟩
   refine ⟨_, _, 0, _, _, HZ1.out, by have := HF.out.1.size; omega, (TysIn.mono hM.tys hout).fr FZ1.out (fun _ _ _ e => e), ClsIn.fr (D := No) ?_ FZ1.out (fun _ _ _ e => e), HK.out, .inl ⟨rfl, rfl, rfl⟩⟩
   refine own_sl_S hM.own L rfl HMM.out hM.len hM.five (fun j x c hx hc => (hM.cls j x c (by rw [← HMM.out, List.take_length]; exact hx) hc).mono hout) (by have := hmi; omega) (fun g hg => ?_)
   have := own_ge hM.own g hg
   exact ⟨by rw [HBASE.out]; omega, by omega⟩
theorem disable (w : World) : (callFunc 203 #[]).run Tryz.prog w = .ok (.value (.tuple #[])) w := run_call_mark0 Tryz.func203 (by kernel_rfl) (by kernel_rfl) (by kernel_rfl) .disable (by kernel_rfl) w
theorem enable (w : World) : (callFunc 205 #[]).run Tryz.prog w = .ok (.value (.tuple #[])) w := run_call_mark0 Tryz.func205 (by kernel_rfl) (by kernel_rfl) (by kernel_rfl) .enable (by kernel_rfl) w
theorem acquire (a : Addr) (w : World) : (callFunc 206 #[.pointer (some a)]).run Tryz.prog w = .ok (.value (.tuple #[])) w := run_call_marked Tryz.func206 (by kernel_rfl) (by kernel_rfl) (by kernel_rfl) .acquire (by kernel_rfl) a w
theorem releaseMerge (a : Addr) (w : World) : (callFunc 208 #[.pointer (some a)]).run Tryz.prog w = .ok (.value (.tuple #[])) w := run_call_marked Tryz.func208 (by kernel_rfl) (by kernel_rfl) (by kernel_rfl) .releaseMerge (by kernel_rfl) a w
theorem store_deferred (a : Addr) (x : Value) (u : FrameMode) (w : World) (hc : w.cell? a = some x) (hz : w.frozen? a = false) :
  CallsD Tryz.prog 135 #[.pointer (some a), .bool true] u w fun e u' w' => u' = u ∧ (e = .returned (.tuple #[]) ∧ w' = w.drew.setCell a (.int .u32 1)) := by
 have hc' : w.drew.cell? a = some x := by go_simp
 have hz' : w.drew.frozen? a = false := by go_simp
 have hst := run_call_store (P := Tryz.prog) Tryz.func171 (by kernel_rfl) (by kernel_rfl) (by kernel_rfl) (by kernel_rfl) (k := .u32) (y := 1) hc' hz'
 go_enter_d Tryz.func135, Tryz.ntmps135
 go_wp2
 go_region_calls
 all_goals (go_end0; exact ⟨rfl, rfl⟩)
theorem unlock_deferred (a : Addr) (u : FrameMode) (w : World) (hc : w.cell? a = some (.int .i32 1)) (hz : w.frozen? a = false) :
  CallsD Tryz.prog 134 #[.pointer (some a)] u w fun e u' w' => u' = u ∧ (e = .returned (.tuple #[]) ∧ w' = w.setCell a (.int .i32 0)) := by
 have hd := disable
 have he := enable
 have hr := releaseMerge
 have hadd := run_call_add (P := Tryz.prog) Tryz.func209 (by kernel_rfl) (by kernel_rfl) (by kernel_rfl) .i32 (by kernel_rfl) (y := -1) (s := 0) hc hz (by simp [go_sem]; rfl)
 have hcv := run_convert_to_unsafe (P := Tryz.prog) (src := 253) (dst := 240) Tryz.underlying253 Tryz.underlying240 (by kernel_rfl) hc
 go_enter_d Tryz.func134, Tryz.ntmps134
 go_wp2
 go_end0
 go_wp2
 go_end0
 exact ⟨rfl, rfl⟩
theorem lock_free (a : Addr) (w : World) (hc : w.cell? a = some (.int .i32 0)) (hz : w.frozen? a = false) :
  Calls Tryz.prog 133 #[.pointer (some a)] w fun e w' => e = .returned (.tuple #[]) ∧ w' = w.setCell a (.int .i32 1) := by
 have hd := disable
 have he := enable
 have ha := acquire
 have hcas := run_call_cas_hit (P := Tryz.prog) Tryz.func204 (by kernel_rfl) (by kernel_rfl) (by kernel_rfl) .i32 (by kernel_rfl) (y := 1) hc hz
 have hc' : (w.setCell a (.int .i32 1)).cell? a = some (.int .i32 1) := World.cell?_setCell_same w a _ hc
 have hcv := run_convert_to_unsafe (P := Tryz.prog) (src := 253) (dst := 240) Tryz.underlying253 Tryz.underlying240 (by kernel_rfl) hc'
 go_enter Tryz.func133, Tryz.ntmps133
 go_wp2
 first | go_end0 | (simp only [Exit.inBlock, Exit.then]; refine bodyPost_ret (results_none rfl _ _ _) rfl ?_) | refine bodyPost_ret (results_none rfl _ _ _) rfl ?_
 go_wp2
 go_end0
 exact ⟨rfl, rfl⟩
theorem boolLoad_any (a : Addr) (d : Int) (w : World) (hc : w.cell? a = some (.int .u32 d)) : Calls Tryz.prog 86 #[.pointer (some a)] w fun e w' => e = .returned (.bool (d != 0)) ∧ w' = w := by
 have hl := run_call_load (P := Tryz.prog) Tryz.func132 (by kernel_rfl) (by kernel_rfl) (by kernel_rfl) .u32 (by kernel_rfl) hc
 go_enter Tryz.func86, Tryz.ntmps86
 go_wp2
 go_ret
 exact ⟨rfl, rfl⟩
theorem wpL_callM {P : Program} {ops : Array Oper} {rest : List Oper} {op : Oper} {a : Act} {w : World} {Q : Exit → Act → World → Prop} (hgd : op.guard = none) (x : Operand) (tys : Array TypeId) (ho : op.op = .call { callee := .value x, args := #[], argTypes := tys }) (f : FuncId) (u : Value) (hx : a.eval x = .func (.func f) #[u] #[])
  (hent : ∀ (vs : Array Value) (w : World), (callFunc f vs).run P w = .ok (.enter f vs) w)
  (hc : Calls P f #[u] w fun e w' => ∃ v, e = .returned v ∧ wpList P ops Q rest (a.put op.dst v) w') : wpList P ops Q (op :: rest) a w := by
 refine wpList_plain hgd fun K hK => ?_
 unfold Oper.wp
 have e : (execOp a.eval op).run P w = .ok (.enter f #[u]) w := by
  have h1 := hent #[u] w
  simp [execOp, ho, resolve, hx, Deferred.ofValue, invoke]
  simpa using h1
 rw [e]
 show Calls P f #[u] w _
 refine hc.mono ?_
 rintro e w' ⟨v, rfl, h⟩
 exact hK _ _ h
theorem slow_any {T : TypeId} (b : Nat) (vt vc tm cm : Value) (f : FuncId) (w : World) (Q : Value → Value → World → Prop) (hB : Blk w b T (schV vt vc 0 0 tm cm)) (hent : ∀ (vs : Array Value) (w : World), (callFunc f vs).run Tryz.prog w = .ok (.enter f vs) w)
  (hf : ∀ w1, Blk w1 b T (schV vt vc 0 1 tm cm) → Fr (fun k => k = b) w w1 → Calls Tryz.prog f #[.pointer (some ⟨b, 0, none⟩)] w1 fun e w' => e = .returned (.tuple #[]) ∧ ∃ tm' cm', Blk w' b T (schV vt vc 0 1 tm' cm') ∧ Fr (fun k => k = b) w1 w' ∧ Q tm' cm' w') :
  Calls Tryz.prog 87 #[.pointer (some ⟨b, 2, none⟩), .func (.func f) #[.pointer (some ⟨b, 0, none⟩)] #[]] w fun e w' => e = .returned (.tuple #[]) ∧ ∃ tm' cm' w2, Q tm' cm' w2 ∧ Blk w' b T (schV vt vc 1 0 tm' cm') ∧ Fr (fun k => k = b) w w' ∧ Fr (fun k => k = b) w2 w' := by
 have hc3 : w.cell? ⟨b, 3, none⟩ = some (.int .i32 0) := hB.cell 3
 have hL := hid (lock_free ⟨b, 3, none⟩ w hc3 (hB.frozen 3))
 have hB1 : Blk (w.setCell ⟨b, 3, none⟩ (.int .i32 1)) b T (schV vt vc 0 1 tm cm) := hB.set 3 _
 have HF := hid (hf _ hB1 ((Fr.refl _ w).setCell _ _ (.inl rfl)))
 have HE := hid hent
 have HFR1 : Hid (Fr (fun k => k = b) w (w.setCell ⟨b, 3, none⟩ (.int .i32 1))) := hid ((Fr.refl _ w).setCell _ _ (.inl rfl))
 have hc2 : (w.setCell ⟨b, 3, none⟩ (.int .i32 1)).cell? ⟨b, 2, none⟩ = some (.int .u32 0) := hB1.cell 2
 obtain ⟨w1, hw1⟩ : ∃ w1, w.setCell ⟨b, 3, none⟩ (.int .i32 1) = w1 := ⟨_, rfl⟩
 rw [hw1] at hL HF hc2 HFR1
 have HLd := hid (boolLoad_any ⟨b, 2, none⟩ 0 w1 hc2)
 clear hB hf hent hB1 hw1 hc3
 go_enter_defers Tryz.func87, Tryz.ntmps87
 go_wp2_with fail
 refine hL.out.mono ?_
 rintro e w' ⟨rfl, rfl⟩
 go_wp2_with fail
 refine HLd.out.mono ?_
 rintro e w'' ⟨rfl, rfl⟩
 go_wp2_with (first
  | ((with_reducible refine K.atO (.call { callee := .value _, args := _, argTypes := _ }) ?_); refine wpL_callM rfl _ _ rfl f (.pointer (some ⟨b, 0, none⟩)) rfl HE.out ?_))
 refine HF.out.mono ?_
 rintro e w2 ⟨rfl, tm', cm', hB2, hF2, hQ⟩
 refine ⟨_, rfl, ?_⟩
 have HB2 := hid hB2; have HF2 := hid (HFR1.out.trans' hF2); have HQ := hid hQ
 clear hB2 hF2 hQ HF HLd hL hc2 HE
 go_wp2_with fail
 show Leaves Tryz.prog _ _ _ _ .returning w2
 have hB := HB2.out
 have hBd : Blk w2.drew b T (schV vt vc 0 1 tm' cm') := hB
 have hB3 : Blk (w2.drew.setCell ⟨b, 2, none⟩ (.int .u32 1)) b T (schV vt vc 1 1 tm' cm') := hBd.set 2 _
 have hB4 : Blk ((w2.drew.setCell ⟨b, 2, none⟩ (.int .u32 1)).setCell ⟨b, 3, none⟩ (.int .i32 0)) b T (schV vt vc 1 0 tm' cm') := hB3.set 3 _
 refine leaves_cons (f := 135) (args := #[.pointer (some ⟨b, 2, none⟩), .bool true]) (by simp) (by simp [go_sem]) ?_
 refine (store_deferred ⟨b, 2, none⟩ (.int .u32 0) .returning _ (hB.cell 2) (hB.frozen 2)).mono ?_
 rintro e u' w'' ⟨rfl, rfl, rfl⟩
 refine leaves_cons (f := 134) (args := #[.pointer (some ⟨b, 3, none⟩)]) (by simp [settle]) (by simp [go_sem]) ?_
 refine (unlock_deferred ⟨b, 3, none⟩ _ _ (hB3.cell 3) (hB3.frozen 3)).mono ?_
 rintro e u' w'' ⟨rfl, rfl, rfl⟩
 have hfr : Fr (fun k => k = b) w2 ((w2.drew.setCell ⟨b, 2, none⟩ (.int .u32 1)).setCell ⟨b, 3, none⟩ (.int .i32 0)) := (((Fr.refl (fun k => k = b) w2).drew).setCell ⟨b, 2, none⟩ _ (.inl rfl)).setCell ⟨b, 3, none⟩ _ (.inl rfl)
 have hpost : ∃ tm'' cm'' w3, Q tm'' cm'' w3 ∧ Blk ((w2.drew.setCell ⟨b, 2, none⟩ (.int .u32 1)).setCell ⟨b, 3, none⟩ (.int .i32 0)) b T (schV vt vc 1 0 tm'' cm'') ∧ Fr (fun k => k = b) w ((w2.drew.setCell ⟨b, 2, none⟩ (.int .u32 1)).setCell ⟨b, 3, none⟩ (.int .i32 0)) ∧ Fr (fun k => k = b) w3 ((w2.drew.setCell ⟨b, 2, none⟩ (.int .u32 1)).setCell ⟨b, 3, none⟩ (.int .i32 0)) :=
  ⟨tm', cm', w2, HQ.out, hB4, HF2.out.trans' hfr, hfr⟩
 simp [Leaves, settle, results, Tryz.results87]
 exact hpost
theorem do_first {T : TypeId} (b : Nat) (vt vc tm cm : Value) (f : FuncId) (w : World) (Q : Value → Value → World → Prop) (hB : Blk w b T (schV vt vc 0 0 tm cm)) (hent : ∀ (vs : Array Value) (w : World), (callFunc f vs).run Tryz.prog w = .ok (.enter f vs) w)
  (hf : ∀ w1, Blk w1 b T (schV vt vc 0 1 tm cm) → Fr (fun k => k = b) w w1 → Calls Tryz.prog f #[.pointer (some ⟨b, 0, none⟩)] w1 fun e w' => e = .returned (.tuple #[]) ∧ ∃ tm' cm', Blk w' b T (schV vt vc 0 1 tm' cm') ∧ Fr (fun k => k = b) w1 w' ∧ Q tm' cm' w') :
  Calls Tryz.prog 54 #[.pointer (some ⟨b, 2, none⟩), .func (.func f) #[.pointer (some ⟨b, 0, none⟩)] #[]] w fun e w' => e = .returned (.tuple #[]) ∧ ∃ tm' cm' w2, Q tm' cm' w2 ∧ Blk w' b T (schV vt vc 1 0 tm' cm') ∧ Fr (fun k => k = b) w w' ∧ Fr (fun k => k = b) w2 w' := by
 have HS := hid (slow_any b vt vc tm cm f w Q hB hent hf)
 have HLd := hid (boolLoad_any ⟨b, 2, none⟩ 0 w (hB.cell 2))
 clear hB hf hent
 go_enter Tryz.func54, Tryz.ntmps54
 go_wp2_with fail
 refine HLd.out.mono ?_
 rintro e w'' ⟨rfl, rfl⟩
 go_wp2_with fail
 refine HS.out.mono ?_
 rintro e w2 ⟨rfl, h⟩
 have H := hid h
 clear h HS HLd
 go_wp2_with fail
 go_end0
 exact ⟨rfl, H.out⟩
theorem do_done {T : TypeId} (b : Nat) (vt vc tm cm fv : Value) (w : World) (hB : Blk w b T (schV vt vc 1 0 tm cm)) :
  Calls Tryz.prog 54 #[.pointer (some ⟨b, 2, none⟩), fv] w fun e w' => e = .returned (.tuple #[]) ∧ w' = w := by
 have HLd := hid (boolLoad_any ⟨b, 2, none⟩ 1 w (hB.cell 2))
 clear hB
 go_enter Tryz.func54, Tryz.ntmps54
 go_wp2_with fail
 refine HLd.out.mono ?_
 rintro e w'' ⟨rfl, rfl⟩
 go_wp2_with fail
 go_end0
 exact ⟨rfl, rfl⟩
end Go.Proofs.YtgbiicipkbpmeaaGreatDoor.SC
