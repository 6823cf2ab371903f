/-
  Part 16 of the proof: FtA, FtB, FtP, FtQ.
-/
import Derived.Test.YtgbiicipkbpmeaaGreatDoorFe15
import Derived.Test.YtgbiicipkbpmeaaGreatDoorFe14
import Derived.Test.YtgbiicipkbpmeaaGreatDoorFe13
set_option linter.unusedSimpArgs false
set_option linter.unusedVariables false
namespace Go.Proofs.YtgbiicipkbpmeaaGreatDoor.FT
set_option maxRecDepth 100000
set_option maxHeartbeats 128000000
open Go.RowKit K BE DN SC
def isNm (s : Sch) (nm : B) (a : Atr) : Bool := match tyN s a.1 with | none => false | some t => decide (t.nm = nm)
theorem attrOf_is (s : Sch) (en : Ent) (nm : B) : attrOf s en nm = en.find? (isNm s nm) := rfl
theorem attr1_any (X : Nat → Prop) (b p q : Nat) (s : Sch) (t : Ty) (a : Atr) (u ve : Value) (lv : Int) (w : World) (hp : Blk w p 93 (sjV b ve lv)) (hq : Blk w q 53 (tyV t)) (h : Tn X b s w) (hz : Sz a.1) (hqb : q ≠ b) :
  Calls Tryz.prog 149 #[.agg #[.string (sb a.1), u], .pointer (some ⟨p, 0, none⟩), .pointer (some ⟨q, 0, none⟩)] w fun e w' => e = .returned (.bool (isNm s t.nm a)) ∧ Sx w' X b s ∧ Fr (fun k => k = b) w w' := by
 obtain ⟨n, hn⟩ : ∃ n, a.1 = n := ⟨_, rfl⟩
 obtain ⟨R, hR⟩ : ∃ R, isNm s t.nm a = R := ⟨_, rfl⟩
 have HR : Hid ((match tyN s n with | none => false | some o => decide (o.nm = t.nm)) = R) := hid (by rw [← hR, ← hn]; rfl)
 rw [hR]
 rw [hn] at hz ⊢
 have HP := hid hp; have HQ := hid hq; have HX := hid h; have HZ := hid hz; have HQB := hid hqb
 clear hp hq h hz hqb hR hn
 go_enter Tryz.func149, Tryz.ntmps149
 go_wp2_with (first
  | ((with_reducible refine K.atO (.box 45 _) ?_); refine wpL_box rfl _ _ rfl _ rfl [.string (sb n), u] rfl ?_; intro w1 HB1 HF1 HS1; refine Hid.out ?_))
 obtain ⟨g, hg⟩ : ∃ g, w.heap.size = g := ⟨_, rfl⟩
 rw [hg] at HB1 ⊢
 have c0 : w1.cell? ⟨g, 0, none⟩ = some (.string (sb n)) := HB1.out.cell 0
 have cp : w1.cell? ⟨p, 0, none⟩ = some (.pointer (some ⟨b, 0, none⟩)) := (HP.out.fr HF1.out id).cell 0
 have HX1 := hid (HX.out.no HF1.out)
 clear hg HS1
 refine hid ?_
 go_wp2_with fail
 refine (type_any X b s n w1 HX1.out.1 HX1.out.2.1 HZ.out).mono ?_
 rintro e w2 ⟨rfl, hs2, f2⟩
 have HS2 := hid hs2.sx
 have HF2 : Hid (Fr (fun k => k = b) w w2) := hid (HF1.out.no.trans' f2)
 clear hs2 f2 c0 cp
 cases hat : s.tyAt n with
 | none =>
  have HRN : Hid (false = R) := hid (by rw [← HR.out, tyN_none hat])
  have e1 : (none : Option Nat).isSome = false := rfl
  rw [e1]
  clear hat e1
  go_wp2_with (first
   | ((with_reducible refine K.atO (.alloc 53) ?_); refine wpL_alloc rfl _ rfl _ zeroTy _ rfl ?_; intro w3 HB3 HF3 HS3)
   | ((with_reducible refine K.atO (.store 53 _ _) ?_); refine wpL_store rfl _ _ _ rfl w2.heap.size 0 (tyV (tyOf s n)) rfl rfl 53 _ HB3.out (by simp [tyV]) infoTy (oneTy _) ?_; intro w4 HB4 HF4 HS4))
  go_ret
  have hf4 : Fr No w2 w4 := HF3.out.trans HF4.out (fun k e => .inr (by have e : k = w2.heap.size := e; omega))
  exact ⟨by rw [← HRN.out]; rfl, HS2.out.no hf4, HF2.out.trans' hf4.no⟩
 | some i =>
  have HRN : Hid (decide ((tyOf s n).nm = t.nm) = R) := hid (by rw [← HR.out, tyN_at hat])
  have e1 : (some i).isSome = true := rfl
  rw [e1]
  clear hat e1
  go_wp2_with (first
   | ((with_reducible refine K.atO (.alloc 53) ?_); refine wpL_alloc rfl _ rfl _ zeroTy _ rfl ?_; intro w3 HB3 HF3 HS3)
   | ((with_reducible refine K.atO (.store 53 _ _) ?_); refine wpL_store rfl _ _ _ rfl w2.heap.size 0 (tyV (tyOf s n)) rfl rfl 53 _ HB3.out (by simp [tyV]) infoTy (oneTy _) ?_; intro w4 HB4 HF4 HS4; refine Hid.out ?_))
  have HF4' : Hid (Fr No w2 w4) := hid (HF3.out.trans HF4.out (fun k e => .inr (by have e : k = w2.heap.size := e; omega)))
  have HB4' : Hid (Blk w4 w2.heap.size 53 (tyV (tyOf s n))) := hid HB4.out
  obtain ⟨r, hr⟩ : ∃ r, w2.heap.size = r := ⟨_, rfl⟩
  rw [hr] at HB4' ⊢
  have c1 : w4.cell? ⟨r, 0, none⟩ = some (.string (sb (tyOf s n).nm)) := HB4'.out.cell 0
  have c2 : w4.cell? ⟨q, 0, none⟩ = some (.string (sb t.nm)) := (HQ.out.fr (HF2.out.trans' HF4'.out.no) HQB.out).cell 0
  clear hr HB3 HF3 HS3 HB4 HF4 HS4
  refine hid ?_
  go_wp2_with (first
   | ((with_reducible refine K.atO (.binOp .eql 9 _ _ _) ?_); refine wpL_valZ rfl (.bool R) (by rw [← HRN.out]; exact exec_eqS _ _ _ rfl (tyOf s n).nm t.nm rfl rfl _) ?_))
  go_ret
  exact ⟨rfl, HS2.out.no HF4'.out, HF2.out.trans' HF4'.out.no⟩
def AtO (S : Nat → Prop) (w : World) : Option Atr → List Value → Prop
 | none, cs => cs = [.string (sb []), .slice none 0 0]
 | some a, cs => AtC S w a cs
theorem AtO.fr {S D : Nat → Prop} {w w' : World} {o : Option Atr} {cs : List Value} (h : AtO S w o cs) (hf : Fr D w w') (hd : ∀ i, S i → i < w.heap.size → ¬ D i) : AtO S w' o cs := by
 cases o with
 | none => exact h
 | some a => exact AtC.fr h hf hd
theorem AtO.form {S : Nat → Prop} {w : World} {o : Option Atr} {cs : List Value} (h : AtO S w o cs) : ∃ x u, cs = [.string (sb x), u] ∧ Sz x ∧ LsIn S w u ((o.map (·.2)).getD []) := by
 cases o with
 | none =>
  obtain rfl := h
  exact ⟨[], .slice none 0 0, rfl, by unfold Sz; decide, none, 0, rfl, Nat.le_refl _, by simp, .inl rfl⟩
 | some a =>
  obtain ⟨v, rfl, hz, hl⟩ := h
  exact ⟨a.1, v, rfl, hz, hl⟩
theorem AtO.one {S : Nat → Prop} {w : World} {o : Option Atr} {cs : List Value} (h : AtO S w o cs) : cs.length = 2 ∧ ∀ v ∈ cs, v.oneCell' = true := by
 obtain ⟨x, u, rfl, -, hl⟩ := h.form
 obtain ⟨a, c, rfl, -, -⟩ := hl.form
 exact ⟨rfl, by simp [Value.oneCell']⟩
theorem attr_any {S : Nat → Prop} (X : Nat → Prop) (b : Nat) (s : Sch) (ve : Value) (en : Ent) (lv : Int) (t : Ty) (w : World) (h : Tn X b s w) (he : EnIn S w ve en) (hS : ∀ i, S i → i ≠ b) :
  Calls Tryz.prog 106 #[.agg (sjV b ve lv).toArray, .agg (tyV t).toArray] w fun e w' => (∃ cs, e = .returned (.tuple #[.agg cs.toArray, .bool (attrOf s en t.nm).isSome]) ∧ AtO S w' (attrOf s en t.nm) cs) ∧ Sx w' X b s ∧ Fr (fun k => k = b) w w' := by
 obtain ⟨p, hp⟩ : ∃ p, w.heap.size = p := ⟨_, rfl⟩
 have HP := hid hp
 have HX := hid h; have HS := hid hS
 have HE : Hid (EnIn (fun i => S i ∧ i < p) w ve en) := hid (he.mono (fun i hi hlt => ⟨hi, by omega⟩))
 have HBP : Hid (b < p) := hid (by have := h.lt; omega)
 obtain ⟨a, cp, rfl, hcap, hl⟩ := he.form
 obtain ⟨n, hn⟩ : ∃ n, en.length = n := ⟨_, rfl⟩
 have HNN := hid hn
 rw [hn] at HE hcap hl ⊢
 obtain ⟨RA, hRA⟩ : ∃ RA, attrOf s en t.nm = RA := ⟨_, rfl⟩
 have HRA := hid hRA
 rw [hRA]
 have hni : (n : Int) ≤ 140737488351232 := by omega
 clear h he hS hp hn hcap hl hRA
 go_enter Tryz.func106, Tryz.ntmps106
 go_wp2_with (first
  | ((with_reducible refine K.atO (.box 93 _) ?_); refine wpL_box rfl _ _ rfl _ rfl (sjV b (.slice a n cp) lv) rfl ?_; intro w1 HB1 HF1 HS1)
  | ((with_reducible refine K.atO (.box 53 _) ?_); refine wpL_box rfl _ _ rfl _ rfl (tyV t) rfl ?_; intro w2 HB2 HF2 HS2)
  | ((with_reducible refine K.atO (.alloc 45) ?_); refine wpL_alloc rfl _ rfl _ zeroAt _ rfl ?_; intro w3 HB3 HF3 HS3; refine Hid.out ?_))
 rw [HP.out] at HB1 ⊢
 obtain ⟨q, hq⟩ : ∃ q, w1.heap.size = q := ⟨_, rfl⟩
 rw [hq] at HB2 ⊢
 obtain ⟨r, hr⟩ : ∃ r, w2.heap.size = r := ⟨_, rfl⟩
 rw [hr] at HB3 ⊢
 have HN3 := hid (show q = p + 1 ∧ r = p + 2 ∧ w3.heap.size = p + 3 from ⟨by have := HS1.out; have := HP.out; omega, by have := HS1.out; have := HS2.out; have := HP.out; omega, by have := HS1.out; have := HS2.out; have := HS3.out; have := HP.out; omega⟩)
 have HF3' : Hid (Fr No w w3) := hid ((HF1.out.trans' HF2.out).trans' HF3.out)
 have HBp := hid ((HB1.out.fr HF2.out id).fr HF3.out id)
 have HBq := hid (HB2.out.fr HF3.out id)
 have HBr := hid HB3.out
 have HX3 : Hid (Tn (Also X r) b s w3) := hid (HX.out.also (by have := HN3.out; have := HP.out; omega) HF3'.out (by have := HN3.out; omega))
 have HE3 := hid (HE.out.fr HF3'.out (fun _ _ _ e => e))
 have cl : w3.cell? ⟨p, 1, none⟩ = some (.slice a n cp) := HBp.out.cell 1
 have HIX := hid (indexAt 149 [.pointer (some ⟨p, 0, none⟩), .pointer (some ⟨q, 0, none⟩)] (isNm s t.nm) (fun w x c => AtC (fun i => S i ∧ i < p) w x c ∧ Blk w p 93 (sjV b (.slice a n cp) lv) ∧ Blk w q 53 (tyV t)) (fun k => k = b) (fun w' => Tn (Also X r) b s w') (fun i => S i ∧ i < p) _ en w3
  (fun w w' x c h hf => ⟨h.1.fr hf (fun i hi _ e => HS.out i hi.1 e), h.2.1.fr hf (by show ¬ p = b; have := HBP.out; omega), h.2.2.fr hf (by show ¬ q = b; have := HBP.out; have := HN3.out; omega)⟩) (fun i hi _ e => HS.out i hi.1 e) HX3.out (Sl.fr HE3.out (Fr.refl No w3) (fun _ _ _ e => e) (fun x c _ h => ⟨h, HBp.out, HBq.out⟩)) (fun vs w => by kernel_rfl)
  (fun x _ c wv hpp hi hf => by
   obtain ⟨⟨u, rfl, hz, -⟩, hbp, hbq⟩ := hpp
   exact (attr1_any (Also X r) b p q s t x u _ lv wv hbp hbq hi hz (by have := HBP.out; have := HN3.out; omega)).mono fun e w' ⟨h1, h2, h3⟩ => ⟨h1, hi.step h2 h3, h3⟩))
 clear hq hr HB1 HF1 HS1 HB2 HF2 HS2 HB3 HF3 HS3 HX
 refine hid ?_
 go_wp2_with fail
 refine HIX.out.mono ?_
 rintro e w4 ⟨rfl, hs4, f4⟩
 have HS4 := hid hs4.1; have HF4 := hid f4
 have HBr4 := hid (HBr.out.fr f4 (by show ¬ r = b; have := HN3.out; have := HBP.out; omega))
 have cl4 : w4.cell? ⟨p, 1, none⟩ = some (.slice a n cp) := (HBp.out.fr f4 (by show ¬ p = b; have := HBP.out; omega)).cell 1
 clear HIX HX3 HBr cl hs4 f4
 have hfin : ∀ w5 : World, Fr (fun k => k = r) w4 w5 → Fr (fun k => k = b) w w5 := fun w5 h1 =>
  (HF3'.out.no.trans' HF4.out).trans h1 (fun k e => .inr (by have e : k = r := e; have := HN3.out; have := HP.out; omega))
 have HFIN := hid hfin
 clear hfin
 rcases idx_find en (isNm s t.nm) with ⟨i, at_, hi, hat, hfd⟩ | ⟨hi, hfd⟩
 ·rw [hi]
  have hil : i < n := by rw [← HNN.out]; exact (List.getElem?_eq_some_iff.1 hat).1
  have HRS : Hid (RA = some at_) := hid (by rw [← HRA.out, attrOf_is, hfd])
  obtain ⟨g, o, cq, cs, e1, hSg, hgl, hrr, hcl, hpp⟩ := (EnIn.fr HE3.out HF4.out (fun i hi _ e => HS.out i hi.1 e)).get hat
  rw [HNN.out] at e1
  obtain ⟨rfl, rfl⟩ := K.sj e1
  obtain ⟨u, rfl, hz, hls⟩ := hpp
  obtain ⟨va, vcp, hu, hvc, hvl⟩ := hls.form
  have hone : ∀ v ∈ [(Value.string (sb at_.1)), u], v.oneCell' = true := by rw [hu]; simp [Value.oneCell']
  have HONE := hid hone
  have HLS := hid hls; have HZ := hid hz; have HRR := hid hrr
  have hili : (i : Int) < n := by omega
  have hi0 : (0 : Int) ≤ i := by omega
  have hneg : ¬ ((i : Int) < 0) := by omega
  clear hi hat hfd hil hSg hgl hrr hcl hz hls hu hvc hvl hone
  go_wp2_with (first
   | ((with_reducible refine K.atO (.load 45 _) ?_); refine wpL_load rfl _ _ rfl g (o + i * 2) rfl [.string (sb at_.1), u] _ HRR.out rfl rfl infoAt ?_)
   | ((with_reducible refine K.atO (.store 45 _ _) ?_); refine wpL_store rfl _ _ _ rfl r 0 [.string (sb at_.1), u] rfl rfl 45 _ HBr4.out (by simp) infoAt HONE.out ?_; intro w5 HB5 HF5 HS5))
  have HB5' : Hid (Blk w5 r 45 [.string (sb at_.1), u]) := hid HB5.out
  refine ret_cell2 rfl _ rfl HB5'.out rfl rfl infoAt rfl ?_
  refine ⟨⟨[.string (sb at_.1), u], by rw [HRS.out]; rfl, ?_⟩, Sx.back (Sx.set HS4.out HF5.out), HFIN.out w5 HF5.out⟩
  rw [HRS.out]
  exact ⟨u, rfl, HZ.out, (HLS.out.fr HF5.out (fun i hi _ e => by have e : i = r := e; have := hi.2; have := HN3.out; omega)).mono (fun i hi _ => hi.1)⟩
 ·rw [hi]
  have HRS : Hid (RA = none) := hid (by rw [← HRA.out, attrOf_is, hfd])
  clear hi hfd
  go_wp2_with (first
   | ((with_reducible refine K.atO (.build 45 _) ?_); refine wpL_valZ rfl (.agg #[.string (sb []), .slice none 0 0]) (by kernel_rfl) ?_)
   | ((with_reducible refine K.atO (.store 45 _ _) ?_); refine wpL_store rfl _ _ _ rfl r 0 [.string (sb []), .slice none 0 0] rfl rfl 45 _ HBr4.out (by simp) infoAt (by simp [Value.oneCell']) ?_; intro w5 HB5 HF5 HS5))
  have HB5' : Hid (Blk w5 r 45 [.string (sb []), .slice none 0 0]) := hid HB5.out
  refine ret_cell2 rfl _ rfl HB5'.out rfl rfl infoAt rfl ?_
  exact ⟨⟨_, by rw [HRS.out]; rfl, by rw [HRS.out]; rfl⟩, Sx.back (Sx.set HS4.out HF5.out), HFIN.out w5 HF5.out⟩
theorem evalPresent_any {S : Nat → Prop} (X : Nat → Prop) (b : Nat) (s : Sch) (ve : Value) (en : Ent) (lv : Int) (n : B) (w : World) (h : Tn X b s w) (he : EnIn S w ve en) (hS : ∀ i, S i → i ≠ b) (hz : Sz n) :
  Calls Tryz.prog 65 #[.agg (sjV b ve lv).toArray, .string (sb n)] w fun e w' => e = .returned (.int .i64 (evPres s en n)) ∧ Sx w' X b s ∧ Fr (fun k => k = b) w w' := by
 have HX := hid h; have HE := hid he; have HS := hid hS; have HZ := hid hz
 obtain ⟨R, hR⟩ : ∃ R, evPres s en n = R := ⟨_, rfl⟩
 have HR := hid hR
 rw [hR]
 have HBW := hid h.lt
 obtain ⟨ea, ec, rfl, -, -⟩ := he.form
 clear h he hS hz hR
 go_enter Tryz.func65, Tryz.ntmps65
 go_wp2_with (first
  | ((with_reducible refine K.atO (.box 93 _) ?_); refine wpL_box rfl _ _ rfl _ rfl (sjV b (.slice ea en.length ec) lv) rfl ?_; intro w1 HB1 HF1 HS1; refine Hid.out ?_))
 obtain ⟨p, hp⟩ : ∃ p, w.heap.size = p := ⟨_, rfl⟩
 rw [hp] at HB1 ⊢
 have HPB : Hid (¬ p = b) := hid (by have := HBW.out; omega)
 have c0 : w1.cell? ⟨p, 0, none⟩ = some (.pointer (some ⟨b, 0, none⟩)) := HB1.out.cell 0
 have HX1 := hid (HX.out.no HF1.out)
 have HE1 := hid (HE.out.fr HF1.out (fun _ _ _ e => e))
 clear hp HS1
 refine hid ?_
 go_wp2_with fail
 refine (type_any X b s n w1 HX1.out.1 HX1.out.2.1 HZ.out).mono ?_
 rintro e w2 ⟨rfl, hs2, f2⟩
 have HX2 := hid (HX1.out.step hs2.sx f2)
 have HE2 := hid (HE1.out.fr f2 (fun i hi _ e => HS.out i hi e))
 have HB2 := hid (HB1.out.fr f2 HPB.out)
 have HF2 : Hid (Fr (fun k => k = b) w w2) := hid (HF1.out.no.trans' f2)
 clear hs2 f2 c0 HB1
 cases hat : s.tyAt n with
 | none =>
  have HRN : Hid (2 = R) := hid (by rw [← HR.out]; unfold evPres; rw [tyN_none hat])
  have e1 : (none : Option Nat).isSome = false := rfl
  rw [e1]
  clear hat e1
  go_wp2_with (first
   | ((with_reducible refine K.atO (.alloc 53) ?_); refine wpL_alloc rfl _ rfl _ zeroTy _ rfl ?_; intro w3 HB3 HF3 HS3)
   | ((with_reducible refine K.atO (.store 53 _ _) ?_); refine wpL_store rfl _ _ _ rfl w2.heap.size 0 (tyV (tyOf s n)) rfl rfl 53 _ HB3.out (by simp [tyV]) infoTy (oneTy _) ?_; intro w4 HB4 HF4 HS4))
  go_ret
  have hf4 : Fr No w2 w4 := HF3.out.trans HF4.out (fun k e => .inr (by have e : k = w2.heap.size := e; omega))
  exact ⟨by rw [← HRN.out]; rfl, HX2.out.1.no hf4, HF2.out.trans' hf4.no⟩
 | some i =>
  have HRN : Hid (truI (attrOf s en (tyOf s n).nm).isSome = R) := hid (by rw [← HR.out]; unfold evPres; rw [tyN_at hat])
  have e1 : (some i).isSome = true := rfl
  rw [e1]
  clear hat e1
  go_wp2_with (first
   | ((with_reducible refine K.atO (.alloc 53) ?_); refine wpL_alloc rfl _ rfl _ zeroTy _ rfl ?_; intro w3 HB3 HF3 HS3)
   | ((with_reducible refine K.atO (.store 53 _ _) ?_); refine wpL_store rfl _ _ _ rfl w2.heap.size 0 (tyV (tyOf s n)) rfl rfl 53 _ HB3.out (by simp [tyV]) infoTy (oneTy _) ?_; intro w4 HB4 HF4 HS4; refine Hid.out ?_))
  have HF4' : Hid (Fr No w2 w4) := hid (HF3.out.trans HF4.out (fun k e => .inr (by have e : k = w2.heap.size := e; omega)))
  have HB4' : Hid (Blk w4 w2.heap.size 53 (tyV (tyOf s n))) := hid HB4.out
  obtain ⟨r, hr⟩ : ∃ r, w2.heap.size = r := ⟨_, rfl⟩
  rw [hr] at HB4' ⊢
  have HBp4 := hid (HB2.out.fr HF4'.out id)
  have HX4 := hid (HX2.out.no HF4'.out)
  have HE4 := hid (HE2.out.fr HF4'.out (fun _ _ _ e => e))
  clear hr HB3 HF3 HS3 HB4 HF4 HS4
  refine hid ?_
  go_wp2_with (first
   | ((with_reducible refine K.atO (.load 93 _) ?_); refine wpL_load rfl _ _ rfl p 0 rfl (sjV b (.slice ea en.length ec) lv) _ (HBp4.out.range 0 _ rfl) rfl rfl infoSj ?_)
   | ((with_reducible refine K.atO (.load 53 _) ?_); refine wpL_load rfl _ _ rfl r 0 rfl (tyV (tyOf s n)) _ (HB4'.out.range 0 _ rfl) rfl rfl infoTy ?_))
  refine (attr_any X b s _ en lv (tyOf s n) w4 HX4.out HE4.out HS.out).mono ?_
  rintro e w5 ⟨⟨cs, rfl, -⟩, hs5, f5⟩
  have HS5 := hid hs5
  have HF5 := hid (HF2.out.trans' (HF4'.out.no.trans' f5))
  clear hs5 f5
  go_wp2_with fail
  refine (truth_any _ w5).mono ?_
  rintro e w6 ⟨rfl, rfl⟩
  rw [HRN.out]
  go_wp2_with fail
  go_ret
  exact ⟨rfl, HS5.out, HF5.out⟩
theorem evalValues_any {S : Nat → Prop} (f : FuncId) (cap : List Value) (q : B → Bool) (X : Nat → Prop) (b : Nat) (s : Sch) (ve : Value) (en : Ent) (lv : Int) (n : B) (t : Ty) (w : World) (h : Tn X b s w) (he : EnIn S w ve en) (hS : ∀ i, S i → i ≠ b) (hz : Sz n) (ht : tyN s n = some t)
  (hent : ∀ (vs : Array Value) (w : World), (callFunc f vs).run Tryz.prog w = .ok (.enter f vs) w)
  (hf : ∀ v ∈ valsOf s en n, Sz v → ∀ wv, Tn X b s wv → Fr (fun k => k = b) w wv → Calls Tryz.prog f (Value.string (sb v) :: cap).toArray wv fun e w' => e = .returned (.bool (q v)) ∧ Sx w' X b s ∧ Fr (fun k => k = b) wv w') :
  Calls Tryz.prog 99 #[.agg (sjV b ve lv).toArray, .string (sb n), .func (.func f) #[] cap.toArray] w fun e w' => e = .returned (.int .i64 (truI ((valsOf s en n).any q))) ∧ Sx w' X b s ∧ Fr (fun k => k = b) w w' := by
 have HX := hid h; have HE := hid he; have HS := hid hS; have HZ := hid hz; have HEN := hid hent; have HFF := hid hf
 obtain ⟨i, hi, -⟩ := tyN_some ht
 have ht2 := tyN_at hi
 have HV : Hid (valsOf s en n = ((attrOf s en (tyOf s n).nm).map (·.2)).getD []) := hid (by
  unfold valsOf
  rw [ht2]
  simp only
  cases attrOf s en (tyOf s n).nm <;> rfl)
 have HAT := hid hi
 obtain ⟨R, hR⟩ : ∃ R, (valsOf s en n).any q = R := ⟨_, rfl⟩
 have HR := hid hR
 rw [hR]
 have HBW := hid h.lt
 obtain ⟨ea, ec, rfl, -, -⟩ := he.form
 clear h he hS hz hR hent hf hi ht ht2
 go_enter Tryz.func99, Tryz.ntmps99
 go_wp2_with (first
  | ((with_reducible refine K.atO (.box 93 _) ?_); refine wpL_box rfl _ _ rfl _ rfl (sjV b (.slice ea en.length ec) lv) rfl ?_; intro w1 HB1 HF1 HS1; refine Hid.out ?_))
 obtain ⟨p, hp⟩ : ∃ p, w.heap.size = p := ⟨_, rfl⟩
 rw [hp] at HB1 ⊢
 have HPB : Hid (¬ p = b) := hid (by have := HBW.out; omega)
 have c0 : w1.cell? ⟨p, 0, none⟩ = some (.pointer (some ⟨b, 0, none⟩)) := HB1.out.cell 0
 have HX1 := hid (HX.out.no HF1.out)
 have HE1 := hid (HE.out.fr HF1.out (fun _ _ _ e => e))
 clear hp HS1
 refine hid ?_
 go_wp2_with fail
 refine (type_any X b s n w1 HX1.out.1 HX1.out.2.1 HZ.out).mono ?_
 rintro e w2 ⟨rfl, hs2, f2⟩
 have HX2 := hid (HX1.out.step hs2.sx f2)
 have HE2 := hid (HE1.out.fr f2 (fun i hi _ e => HS.out i hi e))
 have HB2 := hid (HB1.out.fr f2 HPB.out)
 have HF2 : Hid (Fr (fun k => k = b) w w2) := hid (HF1.out.no.trans' f2)
 have e1 : (s.tyAt n).isSome = true := by rw [HAT.out]; rfl
 rw [e1]
 clear hs2 f2 c0 HB1 e1
 go_wp2_with (first
  | ((with_reducible refine K.atO (.alloc 53) ?_); refine wpL_alloc rfl _ rfl _ zeroTy _ rfl ?_; intro w3 HB3 HF3 HS3)
  | ((with_reducible refine K.atO (.store 53 _ _) ?_); refine wpL_store rfl _ _ _ rfl w2.heap.size 0 (tyV (tyOf s n)) rfl rfl 53 _ HB3.out (by simp [tyV]) infoTy (oneTy _) ?_; intro w4 HB4 HF4 HS4; refine Hid.out ?_))
 have HF4' : Hid (Fr No w2 w4) := hid (HF3.out.trans HF4.out (fun k e => .inr (by have e : k = w2.heap.size := e; omega)))
 have HB4' : Hid (Blk w4 w2.heap.size 53 (tyV (tyOf s n))) := hid HB4.out
 obtain ⟨r, hr⟩ : ∃ r, w2.heap.size = r := ⟨_, rfl⟩
 rw [hr] at HB4' ⊢
 have HBp4 := hid (HB2.out.fr HF4'.out id)
 have HX4 := hid (HX2.out.no HF4'.out)
 have HE4 := hid (HE2.out.fr HF4'.out (fun _ _ _ e => e))
 clear hr HB3 HF3 HS3 HB4 HF4 HS4
 refine hid ?_
 go_wp2_with (first
  | ((with_reducible refine K.atO (.load 93 _) ?_); refine wpL_load rfl _ _ rfl p 0 rfl (sjV b (.slice ea en.length ec) lv) _ (HBp4.out.range 0 _ rfl) rfl rfl infoSj ?_)
  | ((with_reducible refine K.atO (.load 53 _) ?_); refine wpL_load rfl _ _ rfl r 0 rfl (tyV (tyOf s n)) _ (HB4'.out.range 0 _ rfl) rfl rfl infoTy ?_))
 refine (attr_any X b s _ en lv (tyOf s n) w4 HX4.out HE4.out HS.out).mono ?_
 rintro e w5 ⟨⟨cs, rfl, hcs⟩, hs5, f5⟩
 have HX5 := hid (HX4.out.step hs5 f5)
 have HF5 := hid (HF2.out.trans' (HF4'.out.no.trans' f5))
 obtain ⟨x, u, rfl, hzx, hls⟩ := hcs.form
 have HONE := hid hcs.one.2
 have HLS := hid hls
 obtain ⟨va, vc, rfl, hvc, hvl⟩ := hls.form
 rw [← HV.out] at HLS hvc hvl HONE ⊢
 obtain ⟨m, hm⟩ : ∃ m, (valsOf s en n).length = m := ⟨_, rfl⟩
 rw [hm] at HLS HONE hvc hvl ⊢
 have hmi : (m : Int) ≤ 140737488351232 := by omega
 have HM := hid hm
 clear hs5 f5 hcs hzx hls hvc hvl hm
 go_wp2_with (first
  | ((with_reducible refine K.atO (.alloc 45) ?_); refine wpL_alloc rfl _ rfl _ zeroAt _ rfl ?_; intro w6 HB6 HF6 HS6)
  | ((with_reducible refine K.atO (.store 45 _ _) ?_); refine wpL_store rfl _ _ _ rfl w5.heap.size 0 [.string (sb x), .slice va m vc] rfl rfl 45 _ HB6.out (by simp) infoAt HONE.out ?_; intro w7 HB7 HF7 HS7; refine Hid.out ?_))
 have HF7' : Hid (Fr No w5 w7) := hid (HF6.out.trans HF7.out (fun k e => .inr (by have e : k = w5.heap.size := e; omega)))
 have HB7' : Hid (Blk w7 w5.heap.size 45 [.string (sb x), .slice va m vc]) := hid HB7.out
 obtain ⟨r2, hr2⟩ : ∃ r2, w5.heap.size = r2 := ⟨_, rfl⟩
 rw [hr2] at HB7' ⊢
 have c1 : w7.cell? ⟨r2, 1, none⟩ = some (.slice va m vc) := HB7'.out.cell 1
 have HX7 := hid (HX5.out.no HF7'.out)
 have HLS7 := hid (HLS.out.fr HF7'.out (fun _ _ _ e => e))
 have HF7w : Hid (Fr (fun k => k = b) w w7) := hid (HF5.out.trans' HF7'.out.no)
 have HCS := hid (containsS (α := B) f cap q (fun _ x v => v = .string (sb x) ∧ Sz x) (fun k => k = b) (fun w' => Tn X b s w' ∧ Fr (fun k => k = b) w w') S (.slice va m vc) (valsOf s en n) w7 (fun _ _ _ _ h _ => h) (fun i hi _ e => HS.out i hi e) ⟨HX7.out, HF7w.out⟩
  (Sl.fr HLS7.out (Fr.refl No w7) (fun _ _ _ e => e) (fun x c _ h => ⟨_, h.1, rfl, h.2⟩)) HEN.out
  (fun x hx c wv hpp hi hfw => by
   obtain ⟨rfl, hzx⟩ := hpp
   exact (HFF.out x hx hzx wv hi.1 hi.2).mono fun e w' ⟨h1, h2, h3⟩ => ⟨h1, ⟨hi.1.step h2 h3, hi.2.trans' h3⟩, h3⟩))
 clear hr2 HB6 HF6 HS6 HB7 HF7 HS7
 refine hid ?_
 go_wp2_with fail
 refine HCS.out.mono ?_
 rintro e w8 ⟨rfl, ⟨hx8, hf8⟩, -⟩
 have HX8 := hid hx8; have HF8 := hid hf8
 rw [HR.out]
 clear hx8 hf8 c1
 go_wp2_with fail
 refine (truth_any _ w8).mono ?_
 rintro e w9 ⟨rfl, rfl⟩
 go_wp2_with fail
 go_ret
 exact ⟨rfl, HX8.out.1, HF8.out⟩
theorem order1_any (X : Nat → Prop) (b p q : Nat) (s : Sch) (f : Fl) (vk va ve : Value) (lv : Int) (v : B) (w : World) (hp : Blk w p 93 (sjV b ve lv)) (hq : Blk w q 39 (flV f vk va)) (h : Tn X b s w) (hzn : Sz f.type) (hzv : Sz f.value) (hz : Sz v) (hqb : q ≠ b) :
  Calls Tryz.prog 100 #[.string (sb v), .pointer (some ⟨p, 0, none⟩), .pointer (some ⟨q, 0, none⟩)] w fun e w' => e = .returned (.bool (decide ((cmpE s f.type v f.value).2 = 0) && isOrd f.kind (cmpE s f.type v f.value).1)) ∧ Sx w' X b s ∧ Fr (fun k => k = b) w w' := by
 have H := hid (cmp_any X b s f.type v f.value w h.1 h.2.1 h.2.2.1.1 h.2.2.2.1 hzn hz hzv)
 have c0 : w.cell? ⟨p, 0, none⟩ = some (.pointer (some ⟨b, 0, none⟩)) := hp.cell 0
 have c2 : w.cell? ⟨q, 2, none⟩ = some (.string (sb f.type)) := hq.cell 2
 have c3 : w.cell? ⟨q, 3, none⟩ = some (.string (sb f.value)) := hq.cell 3
 have HQ := hid hq; have HQB := hid hqb
 obtain ⟨m, hm⟩ : ∃ m, (cmpE s f.type v f.value).1 = m := ⟨_, rfl⟩
 obtain ⟨er, her⟩ : ∃ er, (cmpE s f.type v f.value).2 = er := ⟨_, rfl⟩
 rw [hm, her] at H ⊢
 clear hp hq h hzn hzv hz hqb hm her
 go_enter Tryz.func100, Tryz.ntmps100
 go_wp2_with fail
 refine H.out.mono ?_
 rintro e w1 ⟨rfl, hs1, f1⟩
 have HS1 := hid hs1.sx; have HF1 := hid f1
 have ck : w1.cell? ⟨q, 0, none⟩ = some (.int .i64 f.kind) := (HQ.out.fr f1 HQB.out).cell 0
 clear hs1 f1 c0 c2 c3
 by_cases h0 : er = 0
 ·subst h0
  go_wp2_with fail
  refine (isOrder_any f.kind m w1).mono ?_
  rintro e w2 ⟨rfl, rfl⟩
  go_wp2_with fail
  go_ret
  exact ⟨by simp, HS1.out, HF1.out⟩
 ·have e0 := beqN h0
  have HN := hid (decide_eq_false h0)
  clear h0 ck
  go_wp2_with fail
  go_ret
  exact ⟨by rw [HN.out]; rfl, HS1.out, HF1.out⟩
theorem evalOrder_any {S T : Nat → Prop} {M : Nat} (X : Nat → Prop) (b : Nat) (s : Sch) (ve : Value) (en : Ent) (lv : Int) (f : Fl) (vk va : Value) (w : World) (h : Tn X b s w) (he : EnIn S w ve en) (hS : ∀ i, S i → i ≠ b) (hf : FlC M T w f (flV f vk va)) :
  Calls Tryz.prog 63 #[.agg (sjV b ve lv).toArray, .agg (flV f vk va).toArray] w fun e w' => e = .returned (.int .i64 (evOrd s en f.kind f.type f.value)) ∧ Sx w' X b s ∧ Fr (fun k => k = b) w w' := by
 have HX := hid h; have HE := hid he; have HS := hid hS
 cases M with
 | zero => exact hf.elim
 | succ M =>
 obtain ⟨vk2, va2, e0, -, hzt, hzv, -⟩ := hf
 have HZT := hid hzt; have HZV := hid hzv
 obtain ⟨R, hR⟩ : ∃ R, evOrd s en f.kind f.type f.value = R := ⟨_, rfl⟩
 have HR := hid hR
 rw [hR]
 have HBW := hid h.lt
 obtain ⟨ea, ec, rfl, -, -⟩ := he.form
 clear h he hS hzt hzv hR e0
 go_enter Tryz.func63, Tryz.ntmps63
 go_wp2_with (first
  | ((with_reducible refine K.atO (.box 93 _) ?_); refine wpL_box rfl _ _ rfl _ rfl (sjV b (.slice ea en.length ec) lv) rfl ?_; intro w1 HB1 HF1 HS1)
  | ((with_reducible refine K.atO (.box 39 _) ?_); refine wpL_box rfl _ _ rfl _ rfl (flV f vk va) rfl ?_; intro w2 HB2 HF2 HS2; refine Hid.out ?_))
 obtain ⟨p, hp⟩ : ∃ p, w.heap.size = p := ⟨_, rfl⟩
 rw [hp] at HB1 ⊢
 obtain ⟨q, hq⟩ : ∃ q, w1.heap.size = q := ⟨_, rfl⟩
 rw [hq] at HB2 ⊢
 have HPQ := hid (show ¬ p = b ∧ ¬ q = b from ⟨by have := HBW.out; omega, by have := HBW.out; have := HS1.out; omega⟩)
 have HF2' : Hid (Fr No w w2) := hid (HF1.out.trans' HF2.out)
 have HBp := hid (HB1.out.fr HF2.out id)
 have c0 : w2.cell? ⟨p, 0, none⟩ = some (.pointer (some ⟨b, 0, none⟩)) := HBp.out.cell 0
 have c2 : w2.cell? ⟨q, 2, none⟩ = some (.string (sb f.type)) := HB2.out.cell 2
 have c3 : w2.cell? ⟨q, 3, none⟩ = some (.string (sb f.value)) := HB2.out.cell 3
 have HX2 := hid (HX.out.no HF2'.out)
 have HE2 := hid (HE.out.fr HF2'.out (fun _ _ _ e => e))
 clear hp hq HS1 HS2 HB1 HF1 HF2
 refine hid ?_
 go_wp2_with fail
 refine (norm_any X b s f.type f.value w2 HX2.out.1 HX2.out.2.1 HX2.out.2.2.1.1 HX2.out.2.2.2.1 HZT.out HZV.out).mono ?_
 rintro e w3 ⟨rfl, hs3, f3⟩
 have HX3 := hid (HX2.out.step hs3.sx f3)
 have HE3 := hid (HE2.out.fr f3 (fun i hi _ e => HS.out i hi e))
 have HBp3 := hid (HBp.out.fr f3 HPQ.out.1)
 have HBq3 := hid (HB2.out.fr f3 HPQ.out.2)
 have HF3 : Hid (Fr (fun k => k = b) w w3) := hid (HF2'.out.no.trans' f3)
 clear hs3 f3 c0 c2 c3
 by_cases h0 : (normE s f.type f.value).2 = 0
 ·rw [h0]
  obtain ⟨i, hi⟩ := normE_at h0
  have HT := hid (tyN_at hi)
  have HRT : Hid (truI ((valsOf s en f.type).any fun x => decide ((cmpE s f.type x f.value).2 = 0) && isOrd f.kind (cmpE s f.type x f.value).1) = R) := hid (by rw [← HR.out]; unfold evOrd; rw [if_pos h0])
  have c2 : w3.cell? ⟨q, 2, none⟩ = some (.string (sb f.type)) := HBq3.out.cell 2
  clear h0 hi
  go_wp2_with (first
   | ((with_reducible refine K.atO (.load 93 _) ?_); refine wpL_load rfl _ _ rfl p 0 rfl (sjV b (.slice ea en.length ec) lv) _ (HBp3.out.range 0 _ rfl) rfl rfl infoSj ?_))
  refine (evalValues_any 100 [.pointer (some ⟨p, 0, none⟩), .pointer (some ⟨q, 0, none⟩)] (fun x => decide ((cmpE s f.type x f.value).2 = 0) && isOrd f.kind (cmpE s f.type x f.value).1) X b s _ en lv f.type _ w3 HX3.out HE3.out HS.out HZT.out HT.out (fun vs w => by kernel_rfl)
   (fun v _ hzv wv hx hfw => order1_any X b p q s f vk va _ lv v wv (HBp3.out.fr hfw HPQ.out.1) (HBq3.out.fr hfw HPQ.out.2) hx HZT.out HZV.out hzv HPQ.out.2)).mono ?_
  rintro e w4 ⟨rfl, hs4, f4⟩
  rw [HRT.out]
  have HS4 := hid hs4; have HF4 := hid (HF3.out.trans' f4)
  clear hs4 f4 c2
  go_wp2_with fail
  go_ret
  exact ⟨rfl, HS4.out, HF4.out⟩
 ·have HRN : Hid (2 = R) := hid (by rw [← HR.out]; unfold evOrd; rw [if_neg h0])
  obtain ⟨er, her⟩ : ∃ er, (normE s f.type f.value).2 = er := ⟨_, rfl⟩
  rw [her] at h0 ⊢
  have e0 := beqN h0
  clear h0 her
  go_wp2_with fail
  go_ret
  exact ⟨by rw [← HRN.out]; rfl, HX3.out.1, HF3.out⟩
theorem exec_twoZ {op : Oper} {a : Act} (x g h : Operand) (ho : op.op = .slice 9 x (some g) (some h) none) (l : B) {S : ByteArray} (hS : sb l = S) (m k : Nat) {mi ki : Int} (hm : (m : Int) = mi) (hk : (k : Int) = ki) (hx : a.eval x = .string S) (hg : a.eval g = .int .i64 mi) (hh : a.eval h = .int .i64 ki) (h1 : m ≤ k) (h2 : k ≤ l.length) (r : B) (hr : (l.drop m).take (k - m) = r) (w : World) :
  (execOp a.eval op).run Tryz.prog w = .ok (.value (.string (sb r))) w := by
 subst hS hm hk
 exact exec_two x g h ho l m k hx hg hh h1 h2 r hr w
theorem sq_sm {p : B} (h : Sm p) : Sm (squeeze p) := Nat.le_trans (squeeze_len p) h
theorem squeeze_any (p : B) (hp : Sm p) (w : World) : Calls Tryz.prog 143 #[.string (sb p)] w fun e w' => e = .returned (.string (sb (squeeze p))) ∧ Fr No w w' := by
 have HP := hid hp
 have H := hid (fold_any (46 :: (p ++ [46])) (by unfold Sm at hp; simp; omega))
 rw [fold_sq] at H
 obtain ⟨F, hF⟩ : ∃ F, sb (46 :: (squeeze p ++ [46])) = F := ⟨_, rfl⟩
 obtain ⟨m, hm⟩ : ∃ m, (squeeze p).length = m := ⟨_, rfl⟩
 have hsz : (F.size : Int) = m + 2 := by rw [← hF, sb_size]; simp [hm]; omega
 have hmb : (m : Int) ≤ 4294967000 := by have := sq_sm hp; unfold Sm at this; omega
 have hm0 : (0 : Int) ≤ m := by omega
 have HM := hid hm; have HF := hid hF
 rw [hF] at H
 clear hp hm hF
 go_enter Tryz.func143, Tryz.ntmps143
 go_wp2_with (first
  | ((with_reducible refine K.atO (.binOp .add 9 _ _ _) ?_); (fail_if_success (have := HA)); refine wpL_valZ rfl (.string (sb (46 :: p))) (exec_addS _ _ _ rfl [46] p rfl rfl (by have := HP.out; unfold Sm at this; simp; omega) _ rfl _) ?_; have HA := hid trivial)
  | ((with_reducible refine K.atO (.binOp .add 9 _ _ _) ?_); refine wpL_valZ rfl (.string (sb (46 :: (p ++ [46])))) (exec_addS _ _ _ rfl (46 :: p) [46] rfl rfl (by have := HP.out; unfold Sm at this; simp; omega) _ rfl _) ?_))
 refine (H.out w).mono ?_
 rintro e w1 ⟨rfl, f1⟩
 have HF1 := hid f1
 clear f1
 go_wp2_with (first
  | ((with_reducible refine K.atO (.slice 9 _ _ _ _) ?_); refine wpL_valZ rfl (.string (sb (squeeze p))) (exec_twoZ _ _ _ rfl (46 :: (squeeze p ++ [46])) HF.out 1 (m + 1) (mi := 1) (ki := (m : Int) + 2 - 1) rfl (by push_cast; omega) rfl rfl rfl (by omega) (by simp [HM.out]) _ (by simp [← HM.out]) _) ?_))
 go_ret
 exact ⟨rfl, HF1.out⟩
def sqFl (f : Fl) : Fl := .mk f.kind f.kids f.type f.value (trimL (squeeze f.first)) (f.any.map squeeze) (trimR (squeeze f.last))
theorem one7 (f : Fl) {vk va : Value} (hk : ∃ a n c, vk = .slice a n c) (ha : ∃ a n c, va = .slice a n c) : ∀ v ∈ flV f vk va, v.oneCell' = true := by
 obtain ⟨a, n, c, rfl⟩ := hk
 obtain ⟨a2, n2, c2, rfl⟩ := ha
 simp [flV, Value.oneCell']
theorem zeroFl : ∀ w, (zeroValue 39).run Tryz.prog w = .ok (.agg (flV fl0 (.slice none 0 0) (.slice none 0 0)).toArray) w := fun _ => by kernel_rfl
theorem infoSls : (Tryz.prog.info? 37).map (·.size) = some 1 := by kernel_rfl
theorem infoS1 : (Tryz.prog.info? 9).map (·.size) = some 1 := by kernel_rfl
theorem strs_flat (xs : List B) : (xs.map fun x => [Value.string (sb x)]).flatten = strs xs := by
 induction xs with
 | nil => rfl
 | cons x r ih => rw [List.map_cons, List.flatten_cons, ih]; rfl
theorem own_ls {w0 w : World} {v : Value} {n : Nat} {xs : List B} (h : OwR 9 1 w0 w v n (strs xs)) (hs : ∀ x ∈ xs, Sz x) (hl : n ≤ 4294967000) : LsIn (fun i => w0.heap.size ≤ i) w v xs := by
 have hn : xs.length = n := by
  rcases h.2.1.2 with ⟨rfl, h0⟩ | ⟨g, cap, cur, rfl, hb, hg, h1, h2, h3, h4⟩
  ·have h0 : n = 0 := h0
   have := h.2.1.1
   simp at this
   omega
  ·have := h.2.1.1
   simp at this
   omega
 exact own_sl h.2.1 (xs.map fun x => [Value.string (sb x)]) (strs_flat xs) hn (by simp [hn]) (fun c hc => by
  obtain ⟨x, _, rfl⟩ := List.mem_map.1 hc
  rfl) (fun j x c hx hc => by
  rw [List.getElem?_map, hx] at hc
  cases hc
  exact ⟨rfl, hs x (List.mem_of_getElem? hx)⟩) (by omega)
theorem squeezed_any {T : Nat → Prop} (f : Fl) (vk va : Value) (w : World) (hk : ∃ a n c, vk = .slice a n c) (hf : Sm f.first) (hl : Sm f.last) (ha : LsIn T w va f.any) (hs : ∀ x ∈ f.any, Sm x) (hal : f.any.length ≤ 4294967000) :
  Calls Tryz.prog 102 #[.agg (flV f vk va).toArray] w fun e w' => (∃ va', e = .returned (.agg (flV (sqFl f) vk va').toArray) ∧ LsIn (fun i => w.heap.size ≤ i) w' va' (sqFl f).any) ∧ Fr No w w' := by
 have HKS := hid hk; have HFI := hid hf; have HLA := hid hl; have HA := hid ha; have HS := hid hs
 obtain ⟨aa, ac, rfl, hac, -⟩ := ha.form
 obtain ⟨n, hn⟩ : ∃ n, f.any.length = n := ⟨_, rfl⟩
 have HN := hid hn
 rw [hn] at HA hal hac ⊢
 have hni : (n : Int) ≤ 4294967000 := by omega
 obtain ⟨ka, kn, kc, rfl⟩ := hk
 clear hf hl ha hs hn hal hac
 go_enter Tryz.func102, Tryz.ntmps102
 go_wp2_with (first
  | ((with_reducible refine K.atO (.box 39 _) ?_); refine wpL_box rfl _ _ rfl _ rfl (flV f (.slice ka kn kc) (.slice aa n ac)) rfl ?_; intro w1 HB1 HF1 HS1)
  | ((with_reducible refine K.atO (.alloc 39) ?_); refine wpL_alloc rfl _ rfl _ zeroFl (flV fl0 (.slice none 0 0) (.slice none 0 0)) rfl ?_; intro w2 HB2 HF2 HS2; refine Hid.out ?_))
 obtain ⟨p, hp⟩ : ∃ p, w.heap.size = p := ⟨_, rfl⟩
 rw [hp] at HB1 ⊢
 obtain ⟨q, hq⟩ : ∃ q, w1.heap.size = q := ⟨_, rfl⟩
 rw [hq] at HB2 ⊢
 have HPQ := hid (show w.heap.size = p ∧ q = p + 1 ∧ w2.heap.size = p + 2 from ⟨hp, by have := HS1.out; omega, by have := HS1.out; have := HS2.out; omega⟩)
 have HF2' : Hid (Fr No w w2) := hid (HF1.out.trans' HF2.out)
 have HBp := hid (HB1.out.fr HF2.out id)
 have HBq := hid HB2.out
 have c5 : w2.cell? ⟨p, 5, none⟩ = some (.slice aa n ac) := HBp.out.cell 5
 clear hp hq HS1 HS2 HB1 HF1 HB2 HF2
 refine hid ?_
 go_wp2_with fail
 go_loopw [3, 9] (fun sv iv wr => ∃ (i : Nat), iv = .int .i64 i ∧ i ≤ n ∧ Hid (OwR 9 1 w2 wr sv i (strs ((f.any.take i).map squeeze)))) (fun _ iv _ => n - (intOf iv).toNat)
 case atStart => exact ⟨0, rfl, Nat.zero_le _, hid (owR_nil (Fr.refl _ _))⟩
 case round =>
  obtain ⟨i, rfl, hi, HO⟩ := hrel
  obtain ⟨sa, sc, rfl⟩ := HO.out.1
  by_cases hlt : i < n
  ·obtain ⟨x, hx⟩ : ∃ x, f.any[i]? = some x := ⟨_, List.getElem?_eq_getElem (by rw [HN.out]; exact hlt)⟩
   have hlti : (i : Int) < n := by omega
   have hi0 : (0 : Int) ≤ i := by omega
   obtain ⟨g, o, cq, cs, e1, -, hgw, hrr, hc, hxa⟩ := (LsIn.fr (D := No) HA.out (HF2'.out.trans' HO.out.fr) (fun _ _ _ e => e)).get hx
   rw [HN.out] at e1
   obtain ⟨rfl, rfl⟩ := K.sj e1
   obtain ⟨rfl, -⟩ := hxa
   have d0 : wr.cell? ⟨g, o + i, none⟩ = some (.string (sb x)) := by have := hrr 0 _ rfl; simpa using this
   have HXB : Hid (Sm x) := hid (HS.out x (List.mem_of_getElem? hx))
   have HNX : Hid (strs ((f.any.take (i + 1)).map squeeze) = strs ((f.any.take i).map squeeze) ++ [.string (sb (squeeze x))]) := hid (by
    rw [List.take_add_one, hx]
    simp [strs])
   have HLT := hid hlt
   clear hc hgw hrr hx hlt
   go_wp2_with fail
   refine (squeeze_any x HXB.out wr).mono ?_
   rintro e w4 ⟨rfl, f4⟩
   have HO4 := hid (OwR.no HO.out f4)
   clear f4 d0
   go_wp2_with (first
    | ((with_reducible refine K.atO (.buildSlice 37 _ _) ?_); refine wpL_app1 rfl rfl _ _ _ 37 9 rfl rfl Tryz.underlying37 infoStr rfl (by decide) (by decide) HO4.out (.string (sb (squeeze x))) [.string (sb (squeeze x))] rfl rfl rfl (by simp [Value.oneCell']) (fun _ => rfl) (fun _ => rfl) (by omega) (by omega) ?_; intro q5 a5 c5 w5 HO5 HF5))
   refine ⟨⟨i + 1, by go_num, HLT.out, hid (by rw [HNX.out]; exact HO5.out)⟩, ?_⟩
   have := HLT.out
   simp [intOf]; omega
  ·obtain rfl : i = n := by omega
   have hall : (f.any.take i).map squeeze = f.any.map squeeze := by rw [← HN.out, List.take_length]
   have HO2 := HO.out
   rw [hall] at HO2
   have HOO := hid HO2
   have HALL : Hid (∀ x ∈ f.any.map squeeze, Sz x) := hid (fun x hx => by
    obtain ⟨y, hy, rfl⟩ := List.mem_map.1 hx
    have h1 := sq_sm (HS.out y hy)
    unfold Sm at h1; unfold Sz; omega)
   have HFr := hid HO.out.fr
   have HBpr := hid (HBp.out.fr HO.out.fr id)
   have HBqr := hid (HBq.out.fr HO.out.fr id)
   have HWR : Hid (p + 2 ≤ wr.heap.size) := hid (by have := HO.out.fr.size; have := HPQ.out; omega)
   have c4 : wr.cell? ⟨p, 4, none⟩ = some (.string (sb f.first)) := HBpr.out.cell 4
   clear hall HO2 HO hi hlt c5
   go_wp2_with fail
   refine (squeeze_any f.first HFI.out wr).mono ?_
   rintro e w3 ⟨rfl, f3⟩
   have HF3 := hid f3
   have HBp3 := hid (HBpr.out.fr f3 id)
   clear f3 c4
   go_wp2_with fail
   refine (trimL_any (squeeze f.first) w3).mono ?_
   rintro e w4 ⟨rfl, rfl⟩
   go_wp2_with (first
    | ((with_reducible refine K.atO (.store 9 _ _) ?_); refine wpL_setV rfl _ _ _ rfl p 4 (.string (sb (trimL (squeeze f.first)))) rfl rfl rfl rfl 39 _ HBp3.out (by simp [flV]) infoS1 ?_; intro w5 HB5 HF5 HS5)
    | ((with_reducible refine K.atO (.store 37 _ _) ?_); refine wpL_setV rfl _ _ _ rfl p 5 (.slice sa i sc) rfl rfl rfl rfl 39 _ HB5.out (by simp [flV]) infoSls ?_; intro w6 HB6 HF6 HS6; refine Hid.out ?_))
   have c6 : w6.cell? ⟨p, 6, none⟩ = some (.string (sb f.last)) := HB6.out.cell 6
   have HF6' : Hid (Fr (fun k => k = p) wr w6) := hid (HF3.out.no.trans' (HF5.out.trans' HF6.out))
   have HB6' := hid HB6.out
   clear HB5 HF5 HS5 HF6 HS6 HB6
   refine hid ?_
   go_wp2_with fail
   refine (squeeze_any f.last HLA.out w6).mono ?_
   rintro e w7 ⟨rfl, f7⟩
   have HF7 := hid (HF6'.out.trans' f7.no)
   have HB7 := hid (HB6'.out.fr f7 id)
   clear f7 c6
   go_wp2_with fail
   refine (trimR_any (squeeze f.last) (by have h1 := sq_sm HLA.out; unfold Sm at h1; unfold Sz; omega) w7).mono ?_
   rintro e w8 ⟨rfl, rfl⟩
   have HBq8 := hid (HBqr.out.fr HF7.out (by show ¬ q = p; have := HPQ.out; omega))
   go_wp2_with (first
    | ((with_reducible refine K.atO (.store 9 _ _) ?_); refine wpL_setV rfl _ _ _ rfl p 6 (.string (sb (trimR (squeeze f.last)))) rfl rfl rfl rfl 39 _ HB7.out (by simp [flV]) infoS1 ?_; intro w9 HB9 HF9 HS9)
    | ((with_reducible refine K.atO (.load 39 _) ?_); refine wpL_load rfl _ _ rfl p 0 rfl (flV (sqFl f) (.slice ka kn kc) (.slice sa i sc)) _ (HB9.out.range 0 _ rfl) rfl rfl infoFl ?_)
    | ((with_reducible refine K.atO (.store 39 _ _) ?_); refine wpL_store rfl _ _ _ rfl q 0 (flV (sqFl f) (.slice ka kn kc) (.slice sa i sc)) rfl rfl 39 _ (HBq8.out.fr HF9.out (by show ¬ q = p; have := HPQ.out; omega)) (by simp [flV]) infoFl (one7 _ ⟨_, _, _, rfl⟩ ⟨_, _, _, rfl⟩) ?_; intro w10 HB10 HF10 HS10))
   have HB10' : Hid (Blk w10 q 39 (flV (sqFl f) (.slice ka kn kc) (.slice sa i sc))) := hid HB10.out
   have hfr : Fr (fun k => k = p ∨ k = q) wr w10 := (HF7.out.trans' HF9.out).mono (fun k e => .inl e) |>.trans' (HF10.out.mono (fun k e => .inr e))
   refine ret_cell rfl _ rfl HB10'.out rfl rfl infoFl rfl ?_
   refine ⟨⟨_, rfl, ?_⟩, ?_⟩
   ·have h1 := own_ls HOO.out HALL.out (by have := HN.out; omega)
    refine (LsIn.fr h1 hfr (fun j hj _ e => ?_)).mono (fun j hj _ => ?_)
    ·have hj : w2.heap.size ≤ j := hj
     have := HPQ.out
     rcases e with e | e <;> omega
    ·have hj : w2.heap.size ≤ j := hj
     have := HPQ.out
     omega
   ·exact (HF2'.out.trans' HFr.out).trans hfr (fun k e => .inr (by have := HPQ.out; rcases e with e | e <;> omega))
theorem cut_sm {s p : B} (h : Sm s) : Sm (Lib.cut s p).2.1 := by
 cases hc : (Lib.cut s p).2.2 with
 | true => exact Nat.le_trans (cut_len hc) h
 | false =>
  have : (Lib.cut s p).2.1 = [] := by
   unfold Lib.cut at hc ⊢
   split at hc
   ·cases hc
   ·rw [if_neg (by assumption)]
  rw [this]
  unfold Sm
  simp
theorem pre_len (s p : B) : (Lib.trimPrefix s p).length ≤ s.length := by
 unfold Lib.trimPrefix
 split
 ·simp
 ·exact Nat.le_refl _
def rest (fd : Bool) (r : B) (l : List B) (last : B) : Bool := fd && (match cutAll r l with | none => false | some r => Lib.hasSuffix r last)
theorem rest_cons (r p : B) (l : List B) (last : B) : rest true r (p :: l) last = rest (Lib.cut r p).2.2 (Lib.cut r p).2.1 l last := by
 unfold rest
 rw [cutAll]
 cases (Lib.cut r p).2.2 <;> simp
theorem hasParts_any {T : Nat → Prop} (text : B) (f : Fl) (vk va : Value) (w : World) (ht : Sm text) (hG : Gm w) (ha : LsIn T w va f.any) :
  Calls Tryz.prog 104 #[.string (sb text), .agg (flV f vk va).toArray] w fun e w' => e = .returned (.bool (hasP text f.first f.any f.last)) ∧ Fr No w w' := by
 have HT := hid ht; have HG := hid hG; have HA := hid ha
 obtain ⟨R, hR⟩ : ∃ R, hasP text f.first f.any f.last = R := ⟨_, rfl⟩
 have HR : Hid (rest (Lib.hasPrefix text f.first) (Lib.trimPrefix text f.first) f.any f.last = R) := hid hR
 rw [hR]
 obtain ⟨aa, ac, rfl, -, hl0⟩ := ha.form
 obtain ⟨n, hn⟩ : ∃ n, f.any.length = n := ⟨_, rfl⟩
 have HN := hid hn
 rw [hn] at HA hl0 ⊢
 have hni : (n : Int) ≤ 140737488351232 := by omega
 clear ht hG ha hR hn hl0
 go_enter Tryz.func104, Tryz.ntmps104
 go_wp2_with (first
  | ((with_reducible refine K.atO (.box 39 _) ?_); refine wpL_box rfl _ _ rfl _ rfl (flV f vk (.slice aa n ac)) rfl ?_; intro w1 HB1 HF1 HS1; refine Hid.out ?_))
 obtain ⟨p, hp⟩ : ∃ p, w.heap.size = p := ⟨_, rfl⟩
 rw [hp] at HB1 ⊢
 have c4 : w1.cell? ⟨p, 4, none⟩ = some (.string (sb f.first)) := HB1.out.cell 4
 clear hp HS1
 refine hid ?_
 go_wp2_with fail
 refine (cutPre_any text f.first (by have := HT.out; unfold Sm at this; unfold Sz; omega) w1).mono ?_
 rintro e w2 ⟨rfl, f2⟩
 have HB2 := hid (HB1.out.fr f2 id)
 have HF2 : Hid (Fr No w w2) := hid (HF1.out.trans' f2)
 have c5 : w2.cell? ⟨p, 5, none⟩ = some (.slice aa n ac) := HB2.out.cell 5
 have HR0 : Hid (Sm (Lib.trimPrefix text f.first)) := hid (Nat.le_trans (pre_len _ _) HT.out)
 generalize Lib.hasPrefix text f.first = fd0 at HR ⊢
 generalize Lib.trimPrefix text f.first = r0 at HR HR0 ⊢
 clear f2 c4 HB1 HF1
 go_wp2_with fail
 go_loopw [5, 6, 19] (fun rv fv iv wr => ∃ (i : Nat) (r : B) (fd : Bool), rv = .string (sb r) ∧ fv = .bool fd ∧ iv = .int .i64 i ∧ i ≤ n ∧ Hid (rest fd r (f.any.drop i) f.last = R ∧ Sm r ∧ Fr No w2 wr)) (fun _ _ iv _ => n - (intOf iv).toNat)
 case atStart => exact ⟨0, r0, fd0, rfl, rfl, rfl, Nat.zero_le _, hid ⟨HR.out, HR0.out, Fr.refl _ _⟩⟩
 case round =>
  obtain ⟨i, r, fd, rfl, rfl, rfl, hi, HI⟩ := hrel
  by_cases hlt : i < n
  ·obtain ⟨x, hx⟩ : ∃ x, f.any[i]? = some x := ⟨_, List.getElem?_eq_getElem (by rw [HN.out]; exact hlt)⟩
   have hlti : (i : Int) < n := by omega
   have hi0 : (0 : Int) ≤ i := by omega
   obtain ⟨g, o, cq, cs, e1, -, hgw, hrr, hc, hxa⟩ := (LsIn.fr (D := No) HA.out (HF2.out.trans' HI.out.2.2) (fun _ _ _ e => e)).get hx
   rw [HN.out] at e1
   obtain ⟨rfl, rfl⟩ := K.sj e1
   obtain ⟨rfl, -⟩ := hxa
   have d0 : wr.cell? ⟨g, o + i, none⟩ = some (.string (sb x)) := by have := hrr 0 _ rfl; simpa using this
   have HD : Hid (f.any.drop i = x :: f.any.drop (i + 1)) := hid (drop_at hx).1
   have HLT := hid hlt
   clear hc hgw hrr hx hlt
   cases fd with
   | false =>
    have HRF : Hid (false = R) := hid (by rw [← HI.out.1]; rfl)
    go_wp2_with fail
    go_ret
    exact ⟨by rw [← HRF.out]; rfl, HF2.out.trans' HI.out.2.2⟩
   | true =>
    go_wp2_with fail
    refine (cutX_any r x HI.out.2.1 wr (HG.out.no (HF2.out.trans' HI.out.2.2))).mono ?_
    rintro e w3 ⟨rfl, f3⟩
    have HI3 : Hid (rest (Lib.cut r x).2.2 (Lib.cut r x).2.1 (f.any.drop (i + 1)) f.last = R ∧ Sm (Lib.cut r x).2.1 ∧ Fr No w2 w3) := hid ⟨by rw [← rest_cons, ← HD.out]; exact HI.out.1, cut_sm HI.out.2.1, HI.out.2.2.trans' f3⟩
    generalize (Lib.cut r x).2.2 = fd1 at HI3 ⊢
    generalize (Lib.cut r x).2.1 = r1 at HI3 ⊢
    generalize (Lib.cut r x).1 = z1
    clear f3 d0
    go_wp2_with fail
    go_roundw
    case rel => exact ⟨i + 1, r1, fd1, rfl, rfl, by go_num, HLT.out, HI3⟩
    case measure => have := HLT.out; simp [intOf]; omega
  ·obtain rfl : i = n := by omega
   have HDN : Hid (rest fd r [] f.last = R) := hid (by
    have h := HI.out.1
    rw [List.drop_eq_nil_of_le (by rw [HN.out]; exact Nat.le_refl _)] at h
    exact h)
   cases fd with
   | false =>
    have HRF : Hid (false = R) := hid HDN.out
    go_wp2_with fail
    go_ret
    exact ⟨by rw [← HRF.out]; rfl, HF2.out.trans' HI.out.2.2⟩
   | true =>
    have HRF : Hid (Lib.hasSuffix r f.last = R) := hid HDN.out
    have c6 : wr.cell? ⟨p, 6, none⟩ = some (.string (sb f.last)) := (HB2.out.fr HI.out.2.2 id).cell 6
    go_wp2_with fail
    refine (hasSuf_any r f.last (by have := HI.out.2.1; unfold Sm at this; unfold Sz; omega) wr).mono ?_
    rintro e w3 ⟨rfl, rfl⟩
    rw [HRF.out]
    go_wp2_with fail
    go_ret
    exact ⟨rfl, HF2.out.trans' HI.out.2.2⟩
theorem parts1_any {T : Nat → Prop} (q : Nat) (f : Fl) (vk va : Value) (v : B) (w : World) (hq : Blk w q 39 (flV f vk va)) (hv : Sm v) (hG : Gm w) (ha : LsIn T w va f.any) :
  Calls Tryz.prog 103 #[.string (sb v), .pointer (some ⟨q, 0, none⟩)] w fun e w' => e = .returned (.bool (hasP (fold v) f.first f.any f.last)) ∧ Fr No w w' := by
 have c3 := hq.range 0 (flV f vk va) rfl
 have HV := hid hv; have HG := hid hG; have HA := hid ha
 clear hq hv hG ha
 go_enter Tryz.func103, Tryz.ntmps103
 go_wp2_with fail
 have hold : Facts.hold [(2, fun w' => w'.rangeAt q 0 (flV f vk va))] w.drew := Facts.cons_hold c3 (Facts.nil_hold _)
 refine wpD_region hold (by kernel_rfl) 5 rfl ?_
 (refine K.pl 0 (v := ?_) rfl ?_ ?_; rotate_left; (intro; go_simp; try with_reducible rfl); simp only [K.pu])
 (refine K.tk 2 _ rfl K.m0 (exec_load _ _ rfl q 0 rfl _ _ rfl rfl infoFl) ?_; simp only [K.pu])
 clear hold
 refine K.on 1 [(2, fun w' => w'.rangeAt q 0 (flV f vk va))] rfl (fun K1 hK1 => ?_)
 refine wp_call _ _ _ rfl 69 [] rfl (fun vs w => by kernel_rfl) [.string (sb v)] (by rfl) ?_
 refine (fold_any v (by have := HV.out; unfold Sm at this; omega) w.drew).mono ?_
 rintro e w2 ⟨rfl, f2⟩
 have HF2 := hid ((Fr.refl No w).drew.trans' f2)
 have c32 : w2.rangeAt q 0 (flV f vk va) := HF2.out.range c3 id
 refine ⟨_, rfl, hK1 _ _ (Facts.cons_hold c32 (Facts.nil_hold _)) ?_⟩
 clear hK1 K1 f2
 simp only [K.pu]
 refine K.on 3 [] rfl (fun K3 hK3 => ?_)
 refine wp_call _ _ _ rfl 104 [] rfl (fun vs w => by kernel_rfl) [.string (sb (fold v)), .agg (flV f vk va).toArray] (by rfl) ?_
 refine (hasParts_any (fold v) f vk va w2 (Nat.le_trans (fold_len v) HV.out) (HG.out.no HF2.out) (HA.out.fr HF2.out (fun _ _ _ e => e))).mono ?_
 rintro e w3 ⟨rfl, f3⟩
 have HF3 := hid (HF2.out.trans' f3)
 refine ⟨_, rfl, hK3 _ _ (Facts.nil_hold _) ?_⟩
 clear hK3 K3 f3
 simp only [K.pu]
 have hold : Facts.hold [] w3 := Facts.nil_hold _
 (refine K.pl 4 (v := ?_) rfl ?_ ?_; rotate_left; (intro; go_simp; try with_reducible rfl); simp only [K.pu])
 clear hold
 refine wpD_done (by kernel_rfl) ?_ _
 go_wp2_with fail
 go_ret
 exact ⟨rfl, HF3.out⟩
theorem parts2_any {T : Nat → Prop} (q : Nat) (f : Fl) (vk va : Value) (v : B) (w : World) (hq : Blk w q 39 (flV f vk va)) (hv : Sm v) (hG : Gm w) (ha : LsIn T w va f.any) :
  Calls Tryz.prog 105 #[.string (sb v), .pointer (some ⟨q, 0, none⟩)] w fun e w' => e = .returned (.bool (hasP v f.first f.any f.last)) ∧ Fr No w w' := by
 have HQ := hid hq; have H := hid (hasParts_any v f vk va w hv hG ha)
 clear hq hv hG ha
 go_enter Tryz.func105, Tryz.ntmps105
 go_wp2_with (first
  | ((with_reducible refine K.atO (.load 39 _) ?_); refine wpL_load rfl _ _ rfl q 0 rfl (flV f vk va) _ (HQ.out.range 0 _ rfl) rfl rfl infoFl ?_))
 refine H.out.mono ?_
 rintro e w' ⟨rfl, f1⟩
 have HF := hid f1
 clear f1
 go_wp2_with fail
 go_ret
 exact ⟨rfl, HF.out⟩
def EnS (en : Ent) : Prop := ∀ a ∈ en, ∀ v ∈ a.2, Sm v
theorem valsOf_sm {s : Sch} {en : Ent} {n : B} (h : EnS en) : ∀ v ∈ valsOf s en n, Sm v := by
 intro v hv
 unfold valsOf at hv
 cases ht : tyN s n with
 | none => rw [ht] at hv; cases hv
 | some t =>
  rw [ht] at hv
  simp only at hv
  cases ha : attrOf s en t.nm with
  | none => rw [ha] at hv; cases hv
  | some a =>
   rw [ha] at hv
   exact h a (List.mem_of_find?_eq_some ha) v hv
theorem evalParts_any {S T : Nat → Prop} {M : Nat} (X : Nat → Prop) (b : Nat) (s : Sch) (ve : Value) (en : Ent) (lv : Int) (f : Fl) (t : Ty) (vk va : Value) (w : World) (h : Tn X b s w) (he : EnIn S w ve en) (hS : ∀ i, S i → i ≠ b) (hf : FlC M T w f (flV f vk va)) (hT : ∀ i, T i → i ≠ b) (hE : EnS en) (ht : tyN s f.type = some t) :
  Calls Tryz.prog 64 #[.agg (sjV b ve lv).toArray, .agg (flV f vk va).toArray] w fun e w' => e = .returned (.int .i64 (evParts s en f.type f.first f.any f.last)) ∧ Sx w' X b s ∧ Fr (fun k => k = b) w w' := by
 have HX := hid h; have HS := hid hS; have HES := hid hE; have HTN := hid ht
 have HE : Hid (EnIn (fun i => S i ∧ i < w.heap.size) w ve en) := hid (he.mono (fun i hi hlt => ⟨hi, hlt⟩))
 cases M with
 | zero => exact hf.elim
 | succ M =>
 obtain ⟨vk2, va2, e0, -, hzt, -, hzf, hzl, hza, hks⟩ := hf
 have e1 : va2 = va := by simp [flV] at e0; exact e0.2.symm
 have e2 : vk2 = vk := by simp [flV] at e0; exact e0.1.symm
 subst e1 e2
 have HZT := hid hzt; have HZF := hid hzf; have HZL := hid hzl; have HZA : Hid (LsIn (fun i => T i ∧ i < w.heap.size) w va2 f.any) := hid (hza.1.mono (fun i hi hlt => ⟨hi, hlt⟩)); have HZS := hid hza.2
 have HTB := hid hT
 obtain ⟨ka, kc, rfl, -, -⟩ := hks.form
 obtain ⟨aa, ac, rfl, -, -⟩ := hza.1.form
 obtain ⟨R, hR⟩ : ∃ R, evParts s en f.type f.first f.any f.last = R := ⟨_, rfl⟩
 have HR := hid hR
 rw [hR]
 have HBW := hid h.lt
 obtain ⟨ea, ec, rfl, -, -⟩ := he.form
 clear h he hS hE ht hzt hzf hzl hza hks hR e0 hT
 go_enter Tryz.func64, Tryz.ntmps64
 go_wp2_with (first
  | ((with_reducible refine K.atO (.box 93 _) ?_); refine wpL_box rfl _ _ rfl _ rfl (sjV b (.slice ea en.length ec) lv) rfl ?_; intro w1 HB1 HF1 HS1)
  | ((with_reducible refine K.atO (.box 39 _) ?_); refine wpL_box rfl _ _ rfl _ rfl (flV f (.slice ka f.kids.length kc) (.slice aa f.any.length ac)) rfl ?_; intro w2 HB2 HF2 HS2; refine Hid.out ?_))
 obtain ⟨p, hp⟩ : ∃ p, w.heap.size = p := ⟨_, rfl⟩
 rw [hp] at HB1 HE ⊢
 obtain ⟨q, hq⟩ : ∃ q, w1.heap.size = q := ⟨_, rfl⟩
 rw [hq] at HB2 ⊢
 have HPQ := hid (show ¬ p = b ∧ ¬ q = b ∧ w.heap.size = p ∧ q = p + 1 from ⟨by have := HBW.out; omega, by have := HBW.out; have := HS1.out; omega, hp, by have := HS1.out; omega⟩)
 have HF2' : Hid (Fr No w w2) := hid (HF1.out.trans' HF2.out)
 have HBp := hid (HB1.out.fr HF2.out id)
 have c2 : w2.cell? ⟨q, 2, none⟩ = some (.string (sb f.type)) := HB2.out.cell 2
 have HX2 : Hid (Tn (Also X q) b s w2) := hid (HX.out.also (by have := HPQ.out; omega) HF2'.out HB2.out.lt)
 have HGM : Hid (GM (fun k => k < q)) := hid (by have h := HX.out.2.2.2.gx; have h2 := HPQ.out; exact ⟨⟨by have := h.1.1; omega, by have := h.1.2.1; omega, by have := h.1.2.2; omega⟩, by have := h.2; omega⟩)
 have HE2 := hid (HE.out.fr HF2'.out (fun _ _ _ e => e))
 clear hp hq HS1 HS2 HB1 HF1 HF2
 refine hid ?_
 go_wp2_with (first
  | ((with_reducible refine K.atO (.load 93 _) ?_); refine wpL_load rfl _ _ rfl p 0 rfl (sjV b (.slice ea en.length ec) lv) _ (HBp.out.range 0 _ rfl) rfl rfl infoSj ?_)
  | ((with_reducible refine K.atO (.buildSlice 111 _ _) ?_); refine wpL_buildSlice rfl _ 3 _ _ rfl [.int .i64 1] (by kernel_rfl) ?_; intro w3 HB3 HF3 HS3; refine Hid.out ?_))
 obtain ⟨g, hg⟩ : ∃ g, w2.heap.size = g := ⟨_, rfl⟩
 rw [hg] at HB3 ⊢
 have HGB : Hid (g ≠ b) := hid (by have := HBW.out; have := HF2'.out.size; omega)
 have HX3 := hid (HX2.out.no HF3.out)
 have HE3 := hid (HE2.out.fr HF3.out (fun _ _ _ e => e))
 have HBp3 := hid (HBp.out.fr HF3.out id)
 have HBq3 := hid (HB2.out.fr HF3.out id)
 have HF3' := hid (HF2'.out.trans' HF3.out)
 clear hg HS3 HF3 HX2 HE2 HBp HB2
 refine hid ?_
 go_wp2_with fail
 refine (hasSyn_any (Also X q) b s f.type (.slice ea en.length ec) lv [1] g w3 HX3.out HZT.out (HB3.out.range 0 _ rfl) HGB.out (by decide)).mono ?_
 rintro e w4 ⟨rfl, hs4, f4⟩
 have HX4 := hid (HX3.out.step hs4 f4)
 have HE4 := hid (HE3.out.fr f4 (fun i hi _ e => HS.out i hi.1 e))
 have HBp4 := hid (HBp3.out.fr f4 HPQ.out.1)
 have HBq4 := hid (HBq3.out.fr f4 HPQ.out.2.1)
 have HF4 : Hid (Fr (fun k => k = b) w w4) := hid (HF3'.out.no.trans' f4)
 have HZA4 := hid (HZA.out.fr HF4.out (fun i hi _ e => HTB.out i hi.1 e))
 clear hs4 f4 c2 HX3 HE3 HBp3 HBq3 HB3
 cases hsy : hasSyn s f.type [1] with
 | true =>
  have HRT : Hid (truI ((valsOf s en f.type).any fun x => hasP (fold x) (sqFl f).first (sqFl f).any (sqFl f).last) = R) := hid (by rw [← HR.out]; unfold evParts; rw [hsy]; rfl)
  clear hsy
  go_wp2_with (first
   | ((with_reducible refine K.atO (.load 39 _) ?_); refine wpL_load rfl _ _ rfl q 0 rfl (flV f (.slice ka f.kids.length kc) (.slice aa f.any.length ac)) _ (HBq4.out.range 0 _ rfl) rfl rfl infoFl ?_))
  refine (squeezed_any f _ _ w4 ⟨_, _, _, rfl⟩ HZF.out HZL.out HZA4.out HZS.out.1 HZS.out.2).mono ?_
  rintro e w5 ⟨⟨va', rfl, hla'⟩, f5⟩
  obtain ⟨a2, c2', rfl, -, -⟩ := hla'.form
  have HLA := hid hla'
  have HF5 := hid f5
  have HBq5 := hid (HBq4.out.fr f5 id)
  have HW4 : Hid (q < w4.heap.size) := hid (by have := HF4.out.size; have h2 := HBq4.out.lt; exact h2)
  clear hla' f5
  go_wp2_with (first
   | ((with_reducible refine K.atO (.store 39 _ _) ?_); refine wpL_store rfl _ _ _ rfl q 0 (flV (sqFl f) (.slice ka f.kids.length kc) (.slice a2 (sqFl f).any.length c2')) rfl rfl 39 _ HBq5.out (by simp [flV]) infoFl (one7 _ ⟨_, _, _, rfl⟩ ⟨_, _, _, rfl⟩) ?_; intro w6 HB6 HF6 HS6; refine Hid.out ?_))
  have HB6' := hid HB6.out
  have HX6 : Hid (Tn (Also X q) b s w6) := hid ((HX4.out.no HF5.out).set HF6.out HGM.out)
  have HE6 : Hid (EnIn (fun i => S i ∧ i < p) w6 (.slice ea en.length ec) en) := hid (((HE4.out.no HF5.out).fr HF6.out (fun i hi _ e => by have e : i = q := e; have := hi.2; have := HPQ.out; omega)))
  have HF6' : Hid (Fr (fun k => k = b) w w6) := hid ((HF4.out.trans' HF5.out.no).trans HF6.out (fun k e => .inr (by have e : k = q := e; have := HPQ.out; omega)))
  have HB4 : Hid (b < w4.heap.size) := hid (by have := HX4.out.lt; exact this)
  have c26 : w6.cell? ⟨q, 2, none⟩ = some (.string (sb f.type)) := HB6'.out.cell 2
  have cp6 : w6.rangeAt p 0 (sjV b (.slice ea en.length ec) lv) := ((HBp4.out.fr HF5.out id).fr HF6.out (by show ¬ p = q; have := HPQ.out; omega)).range 0 _ rfl
  have HCP := hid cp6
  clear HS6 HB6 cp6
  refine hid ?_
  go_wp2_with (first
   | ((with_reducible refine K.atO (.load 93 _) ?_); refine wpL_load rfl _ _ rfl p 0 rfl (sjV b (.slice ea en.length ec) lv) _ HCP.out rfl rfl infoSj ?_))
  refine (evalValues_any 103 [.pointer (some ⟨q, 0, none⟩)] (fun x => hasP (fold x) (sqFl f).first (sqFl f).any (sqFl f).last) (Also X q) b s _ en lv f.type t w6 HX6.out HE6.out (fun i hi => HS.out i hi.1) HZT.out HTN.out (fun vs w => by kernel_rfl)
   (fun v hv hzv wv hx hfw => (parts1_any q (sqFl f) (.slice ka f.kids.length kc) (.slice a2 (sqFl f).any.length c2') v wv (HB6'.out.fr hfw HPQ.out.2.1) (valsOf_sm HES.out v hv) hx.2.2.2 (LsIn.fr (LsIn.fr HLA.out HF6.out (fun i hi _ e => by have hi : w4.heap.size ≤ i := hi; have e : i = q := e; have := HW4.out; omega)) hfw (fun i hi _ e => by have hi : w4.heap.size ≤ i := hi; have e : i = b := e; have := HB4.out; omega))).mono fun e w' h => ⟨h.1, hx.1.no h.2, h.2.no⟩)).mono ?_
  rintro e w7 ⟨rfl, hs7, f7⟩
  rw [HRT.out]
  have HS7 := hid hs7; have HF7 := hid (HF6'.out.trans' f7)
  clear hs7 f7 c26
  go_wp2_with fail
  go_ret
  exact ⟨rfl, Sx.back HS7.out, HF7.out⟩
 | false =>
  have HRT : Hid (truI ((valsOf s en f.type).any fun x => hasP x f.first f.any f.last) = R) := hid (by rw [← HR.out]; unfold evParts; rw [hsy]; rfl)
  have HE4' : Hid (EnIn (fun i => S i ∧ i < p) w4 (.slice ea en.length ec) en) := HE4
  have c24 : w4.cell? ⟨q, 2, none⟩ = some (.string (sb f.type)) := HBq4.out.cell 2
  have HCP := hid (HBp4.out.range 0 (sjV b (.slice ea en.length ec) lv) rfl)
  clear hsy
  go_wp2_with (first
   | ((with_reducible refine K.atO (.load 93 _) ?_); refine wpL_load rfl _ _ rfl p 0 rfl (sjV b (.slice ea en.length ec) lv) _ HCP.out rfl rfl infoSj ?_))
  refine (evalValues_any 105 [.pointer (some ⟨q, 0, none⟩)] (fun x => hasP x f.first f.any f.last) (Also X q) b s _ en lv f.type t w4 HX4.out HE4.out (fun i hi => HS.out i hi.1) HZT.out HTN.out (fun vs w => by kernel_rfl)
   (fun v hv hzv wv hx hfw => (parts2_any q f (.slice ka f.kids.length kc) (.slice aa f.any.length ac) v wv (HBq4.out.fr hfw HPQ.out.2.1) (valsOf_sm HES.out v hv) hx.2.2.2 (LsIn.fr HZA4.out hfw (fun i hi _ e => HTB.out i hi.1 e))).mono fun e w' h => ⟨h.1, hx.1.no h.2, h.2.no⟩)).mono ?_
  rintro e w7 ⟨rfl, hs7, f7⟩
  rw [HRT.out]
  have HS7 := hid hs7; have HF7 := hid (HF4.out.trans' f7)
  clear hs7 f7 c24
  go_wp2_with fail
  go_ret
  exact ⟨rfl, Sx.back HS7.out, HF7.out⟩
end Go.Proofs.YtgbiicipkbpmeaaGreatDoor.FT
