/-
  Part 22 of the proof: FtE, FtMt.
-/
import Derived.Test.YtgbiicipkbpmeaaGreatDoorFe17
import Derived.Test.YtgbiicipkbpmeaaGreatDoorFe16
import Derived.Test.YtgbiicipkbpmeaaGreatDoorFe21
import Derived.Deep.DeepCutAuto
set_option linter.unusedSimpArgs false
set_option linter.unusedVariables false
namespace Go.Proofs.YtgbiicipkbpmeaaGreatDoor.FT
set_option maxRecDepth 100000
set_option maxHeartbeats 128000000
open Go.RowKit K BE DN SC
theorem FlC.form {M : Nat} {S : Nat → Prop} {w : World} {f : Fl} {cs : List Value} (h : FlC M S w f cs) : ∃ ka kc aa ac, cs = flV f (.slice ka f.kids.length kc) (.slice aa f.any.length ac) ∧ I64 f.kind ∧ Sz f.type ∧ Sz f.value := by
 cases M with
 | zero => exact h.elim
 | succ M =>
  obtain ⟨vk, va, rfl, h1, h2, h3, -, -, h6, h7⟩ := h
  obtain ⟨ka, kc, rfl, -, -⟩ := h7.form
  obtain ⟨aa, ac, rfl, -, -⟩ := h6.1.form
  exact ⟨ka, kc, aa, ac, rfl, h1, h2, h3⟩
theorem FlC.seven {M : Nat} {S : Nat → Prop} {w : World} {f : Fl} {cs : List Value} (h : FlC M S w f cs) : Seven cs := by
 obtain ⟨ka, kc, aa, ac, rfl, -⟩ := h.form
 exact ⟨rfl, one7 f ⟨_, _, _, rfl⟩ ⟨_, _, _, rfl⟩⟩
theorem infoI1 : (Tryz.prog.info? 3).map (·.size) = some 1 := by kernel_rfl
theorem hasSyn_ty {s : Sch} {n : B} {L : List Int} (h : hasSyn s n L = true) : ∃ t, tyN s n = some t := by
 unfold hasSyn at h
 cases ht : tyN s n with
 | none => rw [ht] at h; cases h
 | some t => exact ⟨t, rfl⟩
theorem ev3 {S T : Nat → Prop} {M : Nat} (X : Nat → Prop) (b : Nat) (s : Sch) (ve : Value) (en : Ent) (d : Nat) (f : Fl) (cs : List Value) (w : World) (h : Tn X b s w) (he : EnIn S w ve en) (hS : ∀ i, S i → i ≠ b) (hf : FlC M T w f cs) (hT : ∀ i, T i → i ≠ b) (hd : d ≤ 50) (hk : f.kind = 3) :
  Calls Tryz.prog 34 #[.agg (sjV b ve ((d + 1 : Nat) : Int)).toArray, .agg cs.toArray] w fun e w' => e = .returned (.int .i64 (evF s en (d + 1) f)) ∧ Sx w' X b s ∧ Fr (fun k => k = b) w w' := by
 have HX := hid h; have HS := hid hS; have HTB := hid hT
 have HE : Hid (EnIn S w ve en) := hid he
 have HFL := hid hf
 obtain ⟨ka, kc, aa, ac, rfl, -, hzt, hzv⟩ := hf.form
 have HZT := hid hzt; have HZV := hid hzv
 obtain ⟨R, hR⟩ : ∃ R, evF s en (d + 1) f = R := ⟨_, rfl⟩
 have HR := hid hR
 rw [hR]
 have HBW := hid h.lt
 obtain ⟨ea, ec, rfl, -, -⟩ := he.form
 have hl : evF s en (d + 1) f = evOrd s en f.kind f.type f.value := by unfold evF leaf; simp [hk]
 have HRT : Hid (evOrd s en f.kind f.type f.value = R) := hid (by rw [← hR, hl])
 have HKK := hid hk
 have hd0 : (((d + 1 : Nat) : Int) == 0) = false := beqN (by omega)
 have hd1 : ((d + 1 : Nat) : Int) - 1 = (d : Int) := by omega
 have hd2 : ((d + 1 : Nat) : Int) ≤ 100 := by omega
 obtain ⟨dd, hdd⟩ : ∃ dd : Int, ((d + 1 : Nat) : Int) = dd := ⟨_, rfl⟩
 rw [hdd] at hd0 hd1 hd2 ⊢
 have hd3 : (0 : Int) ≤ dd := by omega
 have HDD := hid hd1
 clear h he hS hf hR hzt hzv hT hdd hd1 hl hk
 go_enter Tryz.func34, Tryz.ntmps34
 go_wp2_with (first
  | ((with_reducible refine K.atO (.box 93 _) ?_); refine wpL_box rfl _ _ rfl _ rfl (sjV b (.slice ea en.length ec) dd) rfl ?_; intro w1 HB1 HF1 HS1)
  | ((with_reducible refine K.atO (.box 39 _) ?_); refine wpL_box rfl _ _ rfl _ rfl (flV f (.slice ka f.kids.length kc) (.slice aa f.any.length ac)) rfl ?_; intro w2 HB2 HF2 HS2; refine Hid.out ?_))
 obtain ⟨p, hp⟩ : ∃ p, w.heap.size = p := ⟨_, rfl⟩
 rw [hp] at HB1 ⊢
 obtain ⟨q, hq⟩ : ∃ q, w1.heap.size = q := ⟨_, rfl⟩
 rw [hq] at HB2 ⊢
 have HPQ := hid (show ¬ p = b ∧ ¬ q = b ∧ w.heap.size = p ∧ q = p + 1 from ⟨by have := HBW.out; omega, by have := HBW.out; have := HS1.out; omega, hp, by have := HS1.out; omega⟩)
 have HF2' : Hid (Fr No w w2) := hid (HF1.out.trans' HF2.out)
 have HBp := hid (HB1.out.fr HF2.out id)
 have cl : w2.cell? ⟨p, 2, none⟩ = some (.int .i64 dd) := HBp.out.cell 2
 clear hp hq HS1 HS2 HB1 HF1 HF2
 refine hid ?_
 go_wp2_with (first
  | ((with_reducible refine K.atO (.store 3 _ _) ?_); refine wpL_setV rfl _ _ _ rfl p 2 (.int .i64 (dd - 1)) rfl rfl rfl rfl 93 _ HBp.out (by simp [sjV]) infoI1 ?_; intro w3 HB3 HF3 HS3; refine Hid.out ?_))
 rw [HDD.out] at HB3 ⊢
 have HB3' : Hid (Blk w3 p 93 (sjV b (.slice ea en.length ec) d)) := hid HB3.out
 have HF3' : Hid (Fr No w w3) := hid (HF2'.out.trans HF3.out (fun k e => .inr (by have e : k = p := e; have := HPQ.out; omega)))
 have HBq := hid (HB2.out.fr HF3.out (by show ¬ q = p; have := HPQ.out; omega))
 have HX3 := hid (HX.out.no HF3'.out)
 have HE3 := hid (HE.out.no HF3'.out)
 have HFL3 := hid (HFL.out.no HF3'.out)
 have HBW3 : Hid (b < w3.heap.size) := hid (HX3.out.lt)
 have HCP := hid (HB3'.out.range 0 (sjV b (.slice ea en.length ec) d) rfl)
 have HCQ := hid (HBq.out.range 0 (flV f (.slice ka f.kids.length kc) (.slice aa f.any.length ac)) rfl)
 have ck : w3.cell? ⟨q, 0, none⟩ = some (.int .i64 3) := by have := HBq.out.cell 0; rw [this]; simp [flV, HKK.out]
 clear HB2 HB3 HF3 HS3 HBp HX HE HFL HF2' cl
 refine hid ?_
 go_wp2_with (first
  | ((with_reducible refine K.atO (.load 93 _) ?_); refine wpL_load rfl _ _ rfl p 0 rfl (sjV b (.slice ea en.length ec) d) _ (HCP.out) rfl rfl infoSj ?_)
  | ((with_reducible refine K.atO (.load 39 _) ?_); refine wpL_load rfl _ _ rfl q 0 rfl (flV f (.slice ka f.kids.length kc) (.slice aa f.any.length ac)) _ (HCQ.out) rfl rfl infoFl ?_))
 refine (evalOrder_any X b s _ en d f _ _ w3 HX3.out HE3.out HS.out HFL3.out).mono ?_
 rintro e w9 ⟨rfl, hs9, f9⟩
 rw [HRT.out]
 have HS9 := hid hs9; have HF9 := hid (HF3'.out.no.trans' f9)
 clear hs9 f9
 go_wp2_with fail
 go_ret
 exact ⟨rfl, HS9.out, HF9.out⟩
theorem ev7 {S T : Nat → Prop} {M : Nat} (X : Nat → Prop) (b : Nat) (s : Sch) (ve : Value) (en : Ent) (d : Nat) (f : Fl) (cs : List Value) (w : World) (h : Tn X b s w) (he : EnIn S w ve en) (hS : ∀ i, S i → i ≠ b) (hf : FlC M T w f cs) (hT : ∀ i, T i → i ≠ b) (hd : d ≤ 50) (hk : f.kind = 7) :
  Calls Tryz.prog 34 #[.agg (sjV b ve ((d + 1 : Nat) : Int)).toArray, .agg cs.toArray] w fun e w' => e = .returned (.int .i64 (evF s en (d + 1) f)) ∧ Sx w' X b s ∧ Fr (fun k => k = b) w w' := by
 have HX := hid h; have HS := hid hS; have HTB := hid hT
 have HE : Hid (EnIn S w ve en) := hid he
 have HFL := hid hf
 obtain ⟨ka, kc, aa, ac, rfl, -, hzt, hzv⟩ := hf.form
 have HZT := hid hzt; have HZV := hid hzv
 obtain ⟨R, hR⟩ : ∃ R, evF s en (d + 1) f = R := ⟨_, rfl⟩
 have HR := hid hR
 rw [hR]
 have HBW := hid h.lt
 obtain ⟨ea, ec, rfl, -, -⟩ := he.form
 have hl : evF s en (d + 1) f = evPres s en f.type := by unfold evF leaf; simp [hk]
 have HRT : Hid (evPres s en f.type = R) := hid (by rw [← hR, hl])
 have HKK := hid hk
 have hd0 : (((d + 1 : Nat) : Int) == 0) = false := beqN (by omega)
 have hd1 : ((d + 1 : Nat) : Int) - 1 = (d : Int) := by omega
 have hd2 : ((d + 1 : Nat) : Int) ≤ 100 := by omega
 obtain ⟨dd, hdd⟩ : ∃ dd : Int, ((d + 1 : Nat) : Int) = dd := ⟨_, rfl⟩
 rw [hdd] at hd0 hd1 hd2 ⊢
 have hd3 : (0 : Int) ≤ dd := by omega
 have HDD := hid hd1
 clear h he hS hf hR hzt hzv hT hdd hd1 hl hk
 go_enter Tryz.func34, Tryz.ntmps34
 go_wp2_with (first
  | ((with_reducible refine K.atO (.box 93 _) ?_); refine wpL_box rfl _ _ rfl _ rfl (sjV b (.slice ea en.length ec) dd) rfl ?_; intro w1 HB1 HF1 HS1)
  | ((with_reducible refine K.atO (.box 39 _) ?_); refine wpL_box rfl _ _ rfl _ rfl (flV f (.slice ka f.kids.length kc) (.slice aa f.any.length ac)) rfl ?_; intro w2 HB2 HF2 HS2; refine Hid.out ?_))
 obtain ⟨p, hp⟩ : ∃ p, w.heap.size = p := ⟨_, rfl⟩
 rw [hp] at HB1 ⊢
 obtain ⟨q, hq⟩ : ∃ q, w1.heap.size = q := ⟨_, rfl⟩
 rw [hq] at HB2 ⊢
 have HPQ := hid (show ¬ p = b ∧ ¬ q = b ∧ w.heap.size = p ∧ q = p + 1 from ⟨by have := HBW.out; omega, by have := HBW.out; have := HS1.out; omega, hp, by have := HS1.out; omega⟩)
 have HF2' : Hid (Fr No w w2) := hid (HF1.out.trans' HF2.out)
 have HBp := hid (HB1.out.fr HF2.out id)
 have cl : w2.cell? ⟨p, 2, none⟩ = some (.int .i64 dd) := HBp.out.cell 2
 clear hp hq HS1 HS2 HB1 HF1 HF2
 refine hid ?_
 go_wp2_with (first
  | ((with_reducible refine K.atO (.store 3 _ _) ?_); refine wpL_setV rfl _ _ _ rfl p 2 (.int .i64 (dd - 1)) rfl rfl rfl rfl 93 _ HBp.out (by simp [sjV]) infoI1 ?_; intro w3 HB3 HF3 HS3; refine Hid.out ?_))
 rw [HDD.out] at HB3 ⊢
 have HB3' : Hid (Blk w3 p 93 (sjV b (.slice ea en.length ec) d)) := hid HB3.out
 have HF3' : Hid (Fr No w w3) := hid (HF2'.out.trans HF3.out (fun k e => .inr (by have e : k = p := e; have := HPQ.out; omega)))
 have HBq := hid (HB2.out.fr HF3.out (by show ¬ q = p; have := HPQ.out; omega))
 have HX3 := hid (HX.out.no HF3'.out)
 have HE3 := hid (HE.out.no HF3'.out)
 have HFL3 := hid (HFL.out.no HF3'.out)
 have HBW3 : Hid (b < w3.heap.size) := hid (HX3.out.lt)
 have HCP := hid (HB3'.out.range 0 (sjV b (.slice ea en.length ec) d) rfl)
 have HCQ := hid (HBq.out.range 0 (flV f (.slice ka f.kids.length kc) (.slice aa f.any.length ac)) rfl)
 have ck : w3.cell? ⟨q, 0, none⟩ = some (.int .i64 7) := by have := HBq.out.cell 0; rw [this]; simp [flV, HKK.out]
 have ct : w3.cell? ⟨q, 2, none⟩ = some (.string (sb f.type)) := HBq.out.cell 2
 clear HB2 HB3 HF3 HS3 HBp HX HE HFL HF2' cl
 refine hid ?_
 go_wp2_with (first
  | ((with_reducible refine K.atO (.load 93 _) ?_); refine wpL_load rfl _ _ rfl p 0 rfl (sjV b (.slice ea en.length ec) d) _ (HCP.out) rfl rfl infoSj ?_))
 refine (evalPresent_any X b s _ en d f.type w3 HX3.out HE3.out HS.out HZT.out).mono ?_
 rintro e w9 ⟨rfl, hs9, f9⟩
 rw [HRT.out]
 have HS9 := hid hs9; have HF9 := hid (HF3'.out.no.trans' f9)
 clear hs9 f9
 go_wp2_with fail
 go_ret
 exact ⟨rfl, HS9.out, HF9.out⟩
theorem evN {S T : Nat → Prop} {M : Nat} (X : Nat → Prop) (b : Nat) (s : Sch) (ve : Value) (en : Ent) (d : Nat) (f : Fl) (cs : List Value) (w : World) (h : Tn X b s w) (he : EnIn S w ve en) (hS : ∀ i, S i → i ≠ b) (hf : FlC M T w f cs) (hT : ∀ i, T i → i ≠ b) (hd : d ≤ 50) (hk : ∀ k, 0 ≤ k → k ≤ 7 → f.kind ≠ k) :
  Calls Tryz.prog 34 #[.agg (sjV b ve ((d + 1 : Nat) : Int)).toArray, .agg cs.toArray] w fun e w' => e = .returned (.int .i64 (evF s en (d + 1) f)) ∧ Sx w' X b s ∧ Fr (fun k => k = b) w w' := by
 have HX := hid h; have HS := hid hS; have HTB := hid hT
 have HE : Hid (EnIn S w ve en) := hid he
 have HFL := hid hf
 obtain ⟨ka, kc, aa, ac, rfl, -, hzt, hzv⟩ := hf.form
 have HZT := hid hzt; have HZV := hid hzv
 obtain ⟨R, hR⟩ : ∃ R, evF s en (d + 1) f = R := ⟨_, rfl⟩
 have HR := hid hR
 rw [hR]
 have HBW := hid h.lt
 obtain ⟨ea, ec, rfl, -, -⟩ := he.form
 have hl : evF s en (d + 1) f = 2 := by unfold evF leaf; simp [hk 0 (by decide) (by decide), hk 1 (by decide) (by decide), hk 2 (by decide) (by decide), hk 3 (by decide) (by decide), hk 4 (by decide) (by decide), hk 5 (by decide) (by decide), hk 6 (by decide) (by decide), hk 7 (by decide) (by decide)]
 have HRT : Hid (2 = R) := hid (by rw [← hR, hl])
 have e0 := beqN (hk 0 (by decide) (by decide))
 have e1 := beqN (hk 1 (by decide) (by decide))
 have e2 := beqN (hk 2 (by decide) (by decide))
 have e3 := beqN (hk 3 (by decide) (by decide))
 have e4 := beqN (hk 4 (by decide) (by decide))
 have e5 := beqN (hk 5 (by decide) (by decide))
 have e6 := beqN (hk 6 (by decide) (by decide))
 have e7 := beqN (hk 7 (by decide) (by decide))
 obtain ⟨kk, hkk⟩ : ∃ kk, f.kind = kk := ⟨_, rfl⟩
 rw [hkk] at e0 e1 e2 e3 e4 e5 e6 e7
 have HKK := hid hkk
 have hd0 : (((d + 1 : Nat) : Int) == 0) = false := beqN (by omega)
 have hd1 : ((d + 1 : Nat) : Int) - 1 = (d : Int) := by omega
 have hd2 : ((d + 1 : Nat) : Int) ≤ 100 := by omega
 obtain ⟨dd, hdd⟩ : ∃ dd : Int, ((d + 1 : Nat) : Int) = dd := ⟨_, rfl⟩
 rw [hdd] at hd0 hd1 hd2 ⊢
 have hd3 : (0 : Int) ≤ dd := by omega
 have HDD := hid hd1
 clear h he hS hf hR hzt hzv hT hdd hd1 hl hk hkk
 go_enter Tryz.func34, Tryz.ntmps34
 go_wp2_with (first
  | ((with_reducible refine K.atO (.box 93 _) ?_); refine wpL_box rfl _ _ rfl _ rfl (sjV b (.slice ea en.length ec) dd) rfl ?_; intro w1 HB1 HF1 HS1)
  | ((with_reducible refine K.atO (.box 39 _) ?_); refine wpL_box rfl _ _ rfl _ rfl (flV f (.slice ka f.kids.length kc) (.slice aa f.any.length ac)) rfl ?_; intro w2 HB2 HF2 HS2; refine Hid.out ?_))
 obtain ⟨p, hp⟩ : ∃ p, w.heap.size = p := ⟨_, rfl⟩
 rw [hp] at HB1 ⊢
 obtain ⟨q, hq⟩ : ∃ q, w1.heap.size = q := ⟨_, rfl⟩
 rw [hq] at HB2 ⊢
 have HPQ := hid (show ¬ p = b ∧ ¬ q = b ∧ w.heap.size = p ∧ q = p + 1 from ⟨by have := HBW.out; omega, by have := HBW.out; have := HS1.out; omega, hp, by have := HS1.out; omega⟩)
 have HF2' : Hid (Fr No w w2) := hid (HF1.out.trans' HF2.out)
 have HBp := hid (HB1.out.fr HF2.out id)
 have cl : w2.cell? ⟨p, 2, none⟩ = some (.int .i64 dd) := HBp.out.cell 2
 clear hp hq HS1 HS2 HB1 HF1 HF2
 refine hid ?_
 go_wp2_with (first
  | ((with_reducible refine K.atO (.store 3 _ _) ?_); refine wpL_setV rfl _ _ _ rfl p 2 (.int .i64 (dd - 1)) rfl rfl rfl rfl 93 _ HBp.out (by simp [sjV]) infoI1 ?_; intro w3 HB3 HF3 HS3; refine Hid.out ?_))
 rw [HDD.out] at HB3 ⊢
 have HB3' : Hid (Blk w3 p 93 (sjV b (.slice ea en.length ec) d)) := hid HB3.out
 have HF3' : Hid (Fr No w w3) := hid (HF2'.out.trans HF3.out (fun k e => .inr (by have e : k = p := e; have := HPQ.out; omega)))
 have HBq := hid (HB2.out.fr HF3.out (by show ¬ q = p; have := HPQ.out; omega))
 have HX3 := hid (HX.out.no HF3'.out)
 have HE3 := hid (HE.out.no HF3'.out)
 have HFL3 := hid (HFL.out.no HF3'.out)
 have HBW3 : Hid (b < w3.heap.size) := hid (HX3.out.lt)
 have HCP := hid (HB3'.out.range 0 (sjV b (.slice ea en.length ec) d) rfl)
 have HCQ := hid (HBq.out.range 0 (flV f (.slice ka f.kids.length kc) (.slice aa f.any.length ac)) rfl)
 have ck : w3.cell? ⟨q, 0, none⟩ = some (.int .i64 kk) := by have := HBq.out.cell 0; rw [this]; simp [flV, HKK.out]
 clear HB2 HB3 HF3 HS3 HBp HX HE HFL HF2' cl
 refine hid ?_
 go_wp2_with fail
 go_ret
 exact ⟨by rw [← HRT.out]; rfl, HX3.out.1, HF3'.out.no⟩
theorem ev56 {S T : Nat → Prop} {M : Nat} (X : Nat → Prop) (b : Nat) (s : Sch) (ve : Value) (en : Ent) (d : Nat) (f : Fl) (cs : List Value) (w : World) (h : Tn X b s w) (he : EnIn S w ve en) (hS : ∀ i, S i → i ≠ b) (hf : FlC M T w f cs) (hT : ∀ i, T i → i ≠ b) (hd : d ≤ 50) (hk : f.kind = 5 ∨ f.kind = 6) :
  Calls Tryz.prog 34 #[.agg (sjV b ve ((d + 1 : Nat) : Int)).toArray, .agg cs.toArray] w fun e w' => e = .returned (.int .i64 (evF s en (d + 1) f)) ∧ Sx w' X b s ∧ Fr (fun k => k = b) w w' := by
 have HX := hid h; have HS := hid hS; have HTB := hid hT
 have HE : Hid (EnIn S w ve en) := hid he
 have HFL := hid hf
 obtain ⟨ka, kc, aa, ac, rfl, -, hzt, hzv⟩ := hf.form
 have HZT := hid hzt; have HZV := hid hzv
 obtain ⟨R, hR⟩ : ∃ R, evF s en (d + 1) f = R := ⟨_, rfl⟩
 have HR := hid hR
 rw [hR]
 have HBW := hid h.lt
 obtain ⟨ea, ec, rfl, -, -⟩ := he.form
 have hl : evF s en (d + 1) f = if hasSyn s f.type [1, 2, 3] then evOrd s en f.kind f.type f.value else 2 := by unfold evF leaf; rcases hk with hk | hk <;> simp [hk]
 have HRT0 : Hid ((if hasSyn s f.type [1, 2, 3] then evOrd s en f.kind f.type f.value else 2) = R) := hid (by rw [← hR, hl])
 have HKK := hid hk
 have hd0 : (((d + 1 : Nat) : Int) == 0) = false := beqN (by omega)
 have hd1 : ((d + 1 : Nat) : Int) - 1 = (d : Int) := by omega
 have hd2 : ((d + 1 : Nat) : Int) ≤ 100 := by omega
 obtain ⟨dd, hdd⟩ : ∃ dd : Int, ((d + 1 : Nat) : Int) = dd := ⟨_, rfl⟩
 rw [hdd] at hd0 hd1 hd2 ⊢
 have hd3 : (0 : Int) ≤ dd := by omega
 have HDD := hid hd1
 clear h he hS hf hR hzt hzv hT hdd hd1 hl hk
 go_enter Tryz.func34, Tryz.ntmps34
 go_wp2_with (first
  | ((with_reducible refine K.atO (.box 93 _) ?_); refine wpL_box rfl _ _ rfl _ rfl (sjV b (.slice ea en.length ec) dd) rfl ?_; intro w1 HB1 HF1 HS1)
  | ((with_reducible refine K.atO (.box 39 _) ?_); refine wpL_box rfl _ _ rfl _ rfl (flV f (.slice ka f.kids.length kc) (.slice aa f.any.length ac)) rfl ?_; intro w2 HB2 HF2 HS2; refine Hid.out ?_))
 obtain ⟨p, hp⟩ : ∃ p, w.heap.size = p := ⟨_, rfl⟩
 rw [hp] at HB1 ⊢
 obtain ⟨q, hq⟩ : ∃ q, w1.heap.size = q := ⟨_, rfl⟩
 rw [hq] at HB2 ⊢
 have HPQ := hid (show ¬ p = b ∧ ¬ q = b ∧ w.heap.size = p ∧ q = p + 1 from ⟨by have := HBW.out; omega, by have := HBW.out; have := HS1.out; omega, hp, by have := HS1.out; omega⟩)
 have HF2' : Hid (Fr No w w2) := hid (HF1.out.trans' HF2.out)
 have HBp := hid (HB1.out.fr HF2.out id)
 have cl : w2.cell? ⟨p, 2, none⟩ = some (.int .i64 dd) := HBp.out.cell 2
 clear hp hq HS1 HS2 HB1 HF1 HF2
 refine hid ?_
 go_wp2_with (first
  | ((with_reducible refine K.atO (.store 3 _ _) ?_); refine wpL_setV rfl _ _ _ rfl p 2 (.int .i64 (dd - 1)) rfl rfl rfl rfl 93 _ HBp.out (by simp [sjV]) infoI1 ?_; intro w3 HB3 HF3 HS3; refine Hid.out ?_))
 rw [HDD.out] at HB3 ⊢
 have HB3' : Hid (Blk w3 p 93 (sjV b (.slice ea en.length ec) d)) := hid HB3.out
 have HF3' : Hid (Fr No w w3) := hid (HF2'.out.trans HF3.out (fun k e => .inr (by have e : k = p := e; have := HPQ.out; omega)))
 have HBq := hid (HB2.out.fr HF3.out (by show ¬ q = p; have := HPQ.out; omega))
 have HX3 := hid (HX.out.no HF3'.out)
 have HE3 := hid (HE.out.no HF3'.out)
 have HFL3 := hid (HFL.out.no HF3'.out)
 have HBW3 : Hid (b < w3.heap.size) := hid (HX3.out.lt)
 have HCP := hid (HB3'.out.range 0 (sjV b (.slice ea en.length ec) d) rfl)
 have HCQ := hid (HBq.out.range 0 (flV f (.slice ka f.kids.length kc) (.slice aa f.any.length ac)) rfl)
 have ck : w3.cell? ⟨q, 0, none⟩ = some (.int .i64 f.kind) := HBq.out.cell 0
 have ct : w3.cell? ⟨q, 2, none⟩ = some (.string (sb f.type)) := HBq.out.cell 2
 clear HB2 HB3 HF3 HS3 HBp HX HE HFL HF2' cl
 obtain ⟨kd, hkd⟩ : ∃ kd, f.kind = kd := ⟨_, rfl⟩
 have HKD := hid hkd
 rw [hkd] at ck
 have hkk : kd = 5 ∨ kd = 6 := by rw [← hkd]; exact HKK.out
 clear hkd
 rcases hkk with rfl | rfl
 all_goals
  refine hid ?_
  go_wp2_with (first
   | ((with_reducible refine K.atO (.load 93 _) ?_); refine wpL_load rfl _ _ rfl p 0 rfl (sjV b (.slice ea en.length ec) d) _ (HCP.out) rfl rfl infoSj ?_)
   | ((with_reducible refine K.atO (.buildSlice 111 _ _) ?_); refine wpL_buildSlice rfl _ 3 _ _ rfl [.int .i64 1, .int .i64 2, .int .i64 3] (by kernel_rfl) ?_; intro w4 HB4 HF4 HS4; refine Hid.out ?_))
  obtain ⟨g, hg⟩ : ∃ g, w3.heap.size = g := ⟨_, rfl⟩
  rw [hg] at HB4 ⊢
  have HGB : Hid (g ≠ b) := hid (by have := HBW3.out; omega)
  have HX4 := hid (HX3.out.no HF4.out)
  have HE4 := hid (HE3.out.no HF4.out)
  have HFL4 := hid (HFL3.out.no HF4.out)
  clear hg HS4 ct
  refine hid ?_
  have ct : w4.cell? ⟨q, 2, none⟩ = some (.string (sb f.type)) := (HBq.out.fr HF4.out id).cell 2
  go_wp2_with fail
  refine (hasSyn_any X b s f.type (.slice ea en.length ec) d [1, 2, 3] g w4 HX4.out HZT.out (HB4.out.range 0 _ rfl) HGB.out (by decide)).mono ?_
  rintro e w5 ⟨rfl, hs5, f5⟩
  have HX5 := hid (HX4.out.step hs5 f5)
  have HE5 := hid (HE4.out.fr f5 (fun i hi _ e => HS.out i hi e))
  have HFL5 := hid (HFL4.out.fr f5 (fun i hi _ e => HTB.out i hi e))
  have HF5 : Hid (Fr (fun k => k = b) w w5) := hid ((HF3'.out.trans' HF4.out).no.trans' f5)
  have HCP5 := hid (f5.range (HF4.out.range HCP.out id) HPQ.out.1)
  have HCQ5 := hid (f5.range (HF4.out.range HCQ.out id) HPQ.out.2.1)
  clear hs5 f5 ct HB4 HF4 HX4 HE4 HFL4
  cases hsy : hasSyn s f.type [1, 2, 3] with
  | false =>
   have HRT : Hid (2 = R) := hid (by rw [← HRT0.out, hsy]; rfl)
   clear hsy
   go_wp2_with fail
   go_ret
   exact ⟨by rw [← HRT.out]; rfl, HX5.out.1, HF5.out⟩
  | true =>
   have HRT : Hid (evOrd s en f.kind f.type f.value = R) := hid (by rw [← HRT0.out, hsy]; rfl)
   clear hsy
   go_wp2_with (first
    | ((with_reducible refine K.atO (.load 93 _) ?_); refine wpL_load rfl _ _ rfl p 0 rfl (sjV b (.slice ea en.length ec) d) _ (HCP5.out) rfl rfl infoSj ?_)
    | ((with_reducible refine K.atO (.load 39 _) ?_); refine wpL_load rfl _ _ rfl q 0 rfl (flV f (.slice ka f.kids.length kc) (.slice aa f.any.length ac)) _ (HCQ5.out) rfl rfl infoFl ?_))
   refine (evalOrder_any X b s _ en d f _ _ w5 HX5.out HE5.out HS.out HFL5.out).mono ?_
   rintro e w9 ⟨rfl, hs9, f9⟩
   rw [HRT.out]
   have HS9 := hid hs9; have HF9 := hid (HF5.out.trans' f9)
   clear hs9 f9
   go_wp2_with fail
   go_ret
   exact ⟨rfl, HS9.out, HF9.out⟩
theorem ev4 {S T : Nat → Prop} {M : Nat} (X : Nat → Prop) (b : Nat) (s : Sch) (ve : Value) (en : Ent) (d : Nat) (f : Fl) (cs : List Value) (w : World) (h : Tn X b s w) (he : EnIn S w ve en) (hS : ∀ i, S i → i ≠ b) (hf : FlC M T w f cs) (hT : ∀ i, T i → i ≠ b) (hd : d ≤ 50) (hk : f.kind = 4) (hE : EnS en) :
  Calls Tryz.prog 34 #[.agg (sjV b ve ((d + 1 : Nat) : Int)).toArray, .agg cs.toArray] w fun e w' => e = .returned (.int .i64 (evF s en (d + 1) f)) ∧ Sx w' X b s ∧ Fr (fun k => k = b) w w' := by
 have HES := hid hE
 clear hE
 have HX := hid h; have HS := hid hS; have HTB := hid hT
 have HE : Hid (EnIn S w ve en) := hid he
 have HFL := hid hf
 obtain ⟨ka, kc, aa, ac, rfl, -, hzt, hzv⟩ := hf.form
 have HZT := hid hzt; have HZV := hid hzv
 obtain ⟨R, hR⟩ : ∃ R, evF s en (d + 1) f = R := ⟨_, rfl⟩
 have HR := hid hR
 rw [hR]
 have HBW := hid h.lt
 obtain ⟨ea, ec, rfl, -, -⟩ := he.form
 have hl : evF s en (d + 1) f = if hasSyn s f.type [1, 2] then evParts s en f.type f.first f.any f.last else 2 := by unfold evF leaf; simp [hk]
 have HRT0 : Hid ((if hasSyn s f.type [1, 2] then evParts s en f.type f.first f.any f.last else 2) = R) := hid (by rw [← hR, hl])
 have HKK := hid hk
 have hd0 : (((d + 1 : Nat) : Int) == 0) = false := beqN (by omega)
 have hd1 : ((d + 1 : Nat) : Int) - 1 = (d : Int) := by omega
 have hd2 : ((d + 1 : Nat) : Int) ≤ 100 := by omega
 obtain ⟨dd, hdd⟩ : ∃ dd : Int, ((d + 1 : Nat) : Int) = dd := ⟨_, rfl⟩
 rw [hdd] at hd0 hd1 hd2 ⊢
 have hd3 : (0 : Int) ≤ dd := by omega
 have HDD := hid hd1
 clear h he hS hf hR hzt hzv hT hdd hd1 hl hk
 go_enter Tryz.func34, Tryz.ntmps34
 go_wp2_with (first
  | ((with_reducible refine K.atO (.box 93 _) ?_); refine wpL_box rfl _ _ rfl _ rfl (sjV b (.slice ea en.length ec) dd) rfl ?_; intro w1 HB1 HF1 HS1)
  | ((with_reducible refine K.atO (.box 39 _) ?_); refine wpL_box rfl _ _ rfl _ rfl (flV f (.slice ka f.kids.length kc) (.slice aa f.any.length ac)) rfl ?_; intro w2 HB2 HF2 HS2; refine Hid.out ?_))
 obtain ⟨p, hp⟩ : ∃ p, w.heap.size = p := ⟨_, rfl⟩
 rw [hp] at HB1 ⊢
 obtain ⟨q, hq⟩ : ∃ q, w1.heap.size = q := ⟨_, rfl⟩
 rw [hq] at HB2 ⊢
 have HPQ := hid (show ¬ p = b ∧ ¬ q = b ∧ w.heap.size = p ∧ q = p + 1 from ⟨by have := HBW.out; omega, by have := HBW.out; have := HS1.out; omega, hp, by have := HS1.out; omega⟩)
 have HF2' : Hid (Fr No w w2) := hid (HF1.out.trans' HF2.out)
 have HBp := hid (HB1.out.fr HF2.out id)
 have cl : w2.cell? ⟨p, 2, none⟩ = some (.int .i64 dd) := HBp.out.cell 2
 clear hp hq HS1 HS2 HB1 HF1 HF2
 refine hid ?_
 go_wp2_with (first
  | ((with_reducible refine K.atO (.store 3 _ _) ?_); refine wpL_setV rfl _ _ _ rfl p 2 (.int .i64 (dd - 1)) rfl rfl rfl rfl 93 _ HBp.out (by simp [sjV]) infoI1 ?_; intro w3 HB3 HF3 HS3; refine Hid.out ?_))
 rw [HDD.out] at HB3 ⊢
 have HB3' : Hid (Blk w3 p 93 (sjV b (.slice ea en.length ec) d)) := hid HB3.out
 have HF3' : Hid (Fr No w w3) := hid (HF2'.out.trans HF3.out (fun k e => .inr (by have e : k = p := e; have := HPQ.out; omega)))
 have HBq := hid (HB2.out.fr HF3.out (by show ¬ q = p; have := HPQ.out; omega))
 have HX3 := hid (HX.out.no HF3'.out)
 have HE3 := hid (HE.out.no HF3'.out)
 have HFL3 := hid (HFL.out.no HF3'.out)
 have HBW3 : Hid (b < w3.heap.size) := hid (HX3.out.lt)
 have HCP := hid (HB3'.out.range 0 (sjV b (.slice ea en.length ec) d) rfl)
 have HCQ := hid (HBq.out.range 0 (flV f (.slice ka f.kids.length kc) (.slice aa f.any.length ac)) rfl)
 have ck : w3.cell? ⟨q, 0, none⟩ = some (.int .i64 4) := by have := HBq.out.cell 0; rw [this]; simp [flV, HKK.out]
 have ct : w3.cell? ⟨q, 2, none⟩ = some (.string (sb f.type)) := HBq.out.cell 2
 clear HB2 HB3 HF3 HS3 HBp HX HE HFL HF2' cl
 refine hid ?_
 go_wp2_with (first
  | ((with_reducible refine K.atO (.load 93 _) ?_); refine wpL_load rfl _ _ rfl p 0 rfl (sjV b (.slice ea en.length ec) d) _ (HCP.out) rfl rfl infoSj ?_)
  | ((with_reducible refine K.atO (.buildSlice 111 _ _) ?_); refine wpL_buildSlice rfl _ 3 _ _ rfl [.int .i64 1, .int .i64 2] (by kernel_rfl) ?_; intro w4 HB4 HF4 HS4; refine Hid.out ?_))
 obtain ⟨g, hg⟩ : ∃ g, w3.heap.size = g := ⟨_, rfl⟩
 rw [hg] at HB4 ⊢
 have HGB : Hid (g ≠ b) := hid (by have := HBW3.out; omega)
 have HX4 := hid (HX3.out.no HF4.out)
 have HE4 := hid (HE3.out.no HF4.out)
 have HFL4 := hid (HFL3.out.no HF4.out)
 clear hg HS4 ct
 refine hid ?_
 have ct : w4.cell? ⟨q, 2, none⟩ = some (.string (sb f.type)) := (HBq.out.fr HF4.out id).cell 2
 go_wp2_with fail
 refine (hasSyn_any X b s f.type (.slice ea en.length ec) d [1, 2] g w4 HX4.out HZT.out (HB4.out.range 0 _ rfl) HGB.out (by decide)).mono ?_
 rintro e w5 ⟨rfl, hs5, f5⟩
 have HX5 := hid (HX4.out.step hs5 f5)
 have HE5 := hid (HE4.out.fr f5 (fun i hi _ e => HS.out i hi e))
 have HFL5 := hid (HFL4.out.fr f5 (fun i hi _ e => HTB.out i hi e))
 have HF5 : Hid (Fr (fun k => k = b) w w5) := hid ((HF3'.out.trans' HF4.out).no.trans' f5)
 have HCP5 := hid (f5.range (HF4.out.range HCP.out id) HPQ.out.1)
 have HCQ5 := hid (f5.range (HF4.out.range HCQ.out id) HPQ.out.2.1)
 clear hs5 f5 ct HB4 HF4 HX4 HE4 HFL4
 cases hsy : hasSyn s f.type [1, 2] with
 | false =>
  have HRT : Hid (2 = R) := hid (by rw [← HRT0.out, hsy]; rfl)
  clear hsy
  go_wp2_with fail
  go_ret
  exact ⟨by rw [← HRT.out]; rfl, HX5.out.1, HF5.out⟩
 | true =>
  have HRT : Hid (evParts s en f.type f.first f.any f.last = R) := hid (by rw [← HRT0.out, hsy]; rfl)
  obtain ⟨ty, hty⟩ := hasSyn_ty hsy
  have HTY := hid hty
  clear hty
  clear hsy
  go_wp2_with (first
   | ((with_reducible refine K.atO (.load 93 _) ?_); refine wpL_load rfl _ _ rfl p 0 rfl (sjV b (.slice ea en.length ec) d) _ (HCP5.out) rfl rfl infoSj ?_)
   | ((with_reducible refine K.atO (.load 39 _) ?_); refine wpL_load rfl _ _ rfl q 0 rfl (flV f (.slice ka f.kids.length kc) (.slice aa f.any.length ac)) _ (HCQ5.out) rfl rfl infoFl ?_))
  refine (evalParts_any X b s _ en d f ty _ _ w5 HX5.out HE5.out HS.out HFL5.out HTB.out HES.out HTY.out).mono ?_
  rintro e w9 ⟨rfl, hs9, f9⟩
  rw [HRT.out]
  have HS9 := hid hs9; have HF9 := hid (HF5.out.trans' f9)
  clear hs9 f9
  go_wp2_with fail
  go_ret
  exact ⟨rfl, HS9.out, HF9.out⟩
theorem exec_toQ {op : Oper} {a : Act} (x h : Operand) (ho : op.op = .slice 9 x none (some h) none) (l : B) (k : Nat) {A : ByteArray} (hA : sb l = A) (hx : a.eval x = .string A) (hh : a.eval h = .int .i64 (k : Int)) (h2 : k ≤ l.length) (r : B) (hr : l.take k = r) (w : World) :
  (execOp a.eval op).run Tryz.prog w = .ok (.value (.string (sb r))) w := by
 subst hA
 exact exec_to x h ho l k hx hh h2 r hr w
theorem exec_neQ {op : Oper} {a : Act} (x y : Operand) (u : TypeId) (ho : op.op = .binOp .neq 9 x y u) (p q : B) {A C : ByteArray} (hA : sb p = A) (hC : sb q = C) (r : Bool) (hr : (!decide (p = q)) = r) (hx : a.eval x = .string A) (hy : a.eval y = .string C) (w : World) :
  (execOp a.eval op).run Tryz.prog w = .ok (.value (.bool r)) w := by
 subst hA hC hr
 exact exec_neS x y u ho p q hx hy w
theorem pre_is (w f : B) : Lib.hasPrefix w f = decide (w.take f.length = f) := by
 have := occ_take w f 0
 rw [List.drop_zero] at this
 exact this
theorem suf_is (r l : B) : Lib.hasSuffix r l = (decide (l.length ≤ r.length) && decide (r.drop (r.length - l.length) = l)) := by
 unfold Lib.hasSuffix
 by_cases h : l.length ≤ r.length ∧ r.drop (r.length - l.length) = l
 ·rw [decide_eq_true h.1, decide_eq_true h.2]
  exact List.isSuffixOf_iff_suffix.2 ⟨r.take (r.length - l.length), by conv => rhs; rw [← List.take_append_drop (r.length - l.length) r, h.2]⟩
 ·have : l.isSuffixOf r = false := by
   rw [Bool.eq_false_iff]
   intro hs
   obtain ⟨t, ht⟩ := List.isSuffixOf_iff_suffix.1 hs
   refine h ⟨by rw [← ht, List.length_append]; omega, ?_⟩
   rw [← ht, List.length_append, Nat.add_sub_cancel]
   exact List.drop_left' rfl
  rw [this]
  by_cases h1 : l.length ≤ r.length
  ·have h2 : ¬ r.drop (r.length - l.length) = l := fun e => h ⟨h1, e⟩
   rw [decide_eq_false h2, Bool.and_false]
  ·rw [decide_eq_false h1, Bool.false_and]
theorem hasP_is (w f : B) (ps : List B) (l : B) : hasP w f ps l = (decide (w.take f.length = f) && (match cutAll (w.drop f.length) ps with | none => false | some r => Lib.hasSuffix r l)) := by
 unfold hasP
 rw [pre_is]
 by_cases h : w.take f.length = f
 ·have h2 : Lib.trimPrefix w f = w.drop f.length := by unfold Lib.trimPrefix; rw [pre_is, decide_eq_true h]; rfl
  rw [decide_eq_true h, h2]
  rfl
 ·rw [decide_eq_false h, Bool.false_and, Bool.false_and]
theorem cutAll_cons (r p : B) (t : List B) : cutAll r (p :: t) = if (Lib.cut r p).2.2 then cutAll (Lib.cut r p).2.1 t else none := rfl
theorem cut_step (w : B) (k : Nat) (p : B) (t : List B) : cutAll (w.drop k) (p :: t) = if findI w k p = -1 then none else cutAll (w.drop ((findI w k p).toNat + p.length)) t := by
 unfold findI
 rw [cutAll_cons]
 rcases Lib.index_spec (w.drop k) p with ⟨h, -⟩ | ⟨i, h, -, -, -⟩
 ·have : (Lib.cut (w.drop k) p).2.2 = false := by unfold Lib.cut; rw [h]; rfl
  rw [h, if_pos rfl, if_pos rfl, this]
  rfl
 ·have : Lib.cut (w.drop k) p = ((w.drop k).take i, (w.drop k).drop (i + p.length), true) := by unfold Lib.cut; rw [h, if_pos (by omega)]; simp
  have h1 : ¬ ((i : Int) = -1) := by omega
  have h2 : ¬ ((k : Int) + (i : Int) = -1) := by omega
  rw [this]
  show cutAll ((w.drop k).drop (i + p.length)) t = _
  rw [List.drop_drop, h, if_neg h1, if_neg h2, show ((k : Int) + (i : Int)).toNat = k + i by omega, Nat.add_assoc]
theorem findI_le (w p : B) (k : Nat) (hk : k ≤ w.length) : findI w k p = -1 ∨ ∃ q : Nat, findI w k p = (q : Int) ∧ q + p.length ≤ w.length := by
 unfold findI
 rcases Lib.index_spec (w.drop k) p with ⟨h, -⟩ | ⟨i, h, -, -, -⟩
 ·exact .inl (by rw [h, if_pos rfl])
 ·refine .inr ⟨k + i, by rw [h, if_neg (by omega)]; omega, ?_⟩
  have := Lib.index_room (w.drop k) p (by rw [h]; omega)
  rw [h, List.length_drop] at this
  omega
def strLen : Value → Nat
 | .string s => s.size
 | _ => 0
theorem trimL_blank (r : B) : trimL (32 :: r) = trimL r := by unfold trimL Lib.trimLeftB; rw [List.dropWhile_cons_of_pos (by decide)]
theorem trimL_stop {c : UInt8} (r : B) (h : c ≠ 32) : trimL (c :: r) = c :: r := by unfold trimL Lib.trimLeftB; rw [List.dropWhile_cons_of_neg (by simpa using h)]
theorem trimR_blank (r : B) : trimR (r ++ [32]) = trimR r := by unfold trimR Lib.trimRightB; rw [List.reverse_append]; show ((32 :: r.reverse).dropWhile _).reverse = _; rw [List.dropWhile_cons_of_pos (by decide)]
theorem trimR_stop {c : UInt8} (r : B) (h : c ≠ 32) : trimR (r ++ [c]) = r ++ [c] := by unfold trimR Lib.trimRightB; rw [List.reverse_append]; show ((c :: r.reverse).dropWhile _).reverse = _; rw [List.dropWhile_cons_of_neg (by simpa using h)]; simp
theorem last_of {l : B} (h : l ≠ []) : ∃ r c, l = r ++ [c] := ⟨l.dropLast, l.getLast h, (List.dropLast_concat_getLast h).symm⟩
theorem matched_any {T : Nat → Prop} {M : Nat} (syn : Int) (v : B) (f : Fl) (cs : List Value) (w : World) (hv : Sm v) (hf : FlC M T w f cs) :
  Calls Tryz.prog 67 #[.int .i64 syn, .string (sb v), .agg cs.toArray] w fun e w' => e = .returned (.bool (matchD syn v f)) ∧ Fr No w w' := by
 cases M with
 | zero => exact hf.elim
 | succ M =>
 obtain ⟨vk, va, rfl, -, hzt, hzv, hsf, hsl, ⟨hany, hsa, -⟩, hkids⟩ := hf
 obtain ⟨ka, kc, rfl, -, -⟩ := hkids.form
 obtain ⟨aa, ac, rfl, hac, hal⟩ := hany.form
 obtain ⟨n, hn⟩ : ∃ n, f.any.length = n := ⟨_, rfl⟩
 rw [hn] at hany hac hal ⊢
 have hni : (n : Int) ≤ 140737488351232 := by omega
 have HNN := hid hn; have HSA := hid hsa
 obtain ⟨Pf, hPf⟩ : ∃ Pf : B → B, (if syn = 1 then squeeze else id) = Pf := ⟨_, rfl⟩
 obtain ⟨W, hW⟩ : ∃ W, (if syn = 1 then fold v else v) = W := ⟨_, rfl⟩
 obtain ⟨F, hF⟩ : ∃ F, (if syn = 1 then trimL (squeeze f.first) else f.first) = F := ⟨_, rfl⟩
 obtain ⟨L, hL⟩ : ∃ L, (if syn = 1 then trimR (squeeze f.last) else f.last) = L := ⟨_, rfl⟩
 obtain ⟨R, hR⟩ : ∃ R, matchD syn v f = R := ⟨_, rfl⟩
 have hR2 : hasP W F (f.any.map Pf) L = R := by
  rw [← hR, ← hW, ← hF, ← hL, ← hPf]
  unfold matchD
  by_cases h : syn = 1
  ·simp only [if_pos h]
  ·simp only [if_neg h, List.map_id]
 rw [hR]
 have HR := hid hR2
 have HFO := hid (rfold_any v hv); have HSQF := hid (rsqueeze_any f.first hsf); have HSQL := hid (rsqueeze_any f.last hsl)
 have HWL : Hid (W.length ≤ 4294967000) := hid (by rw [← hW]; split; exact Nat.le_trans (fold_len v) hv; exact hv)
 have HFL : Hid (F.length ≤ 4294967000) := hid (by rw [← hF]; split; exact Nat.le_trans (trimL_len _) (Nat.le_trans (squeeze_len _) hsf); exact hsf)
 have HLL : Hid (L.length ≤ 4294967000) := hid (by rw [← hL]; split; exact Nat.le_trans (trimR_len _) (Nat.le_trans (squeeze_len _) hsl); exact hsl)
 have HSF1 := hid (Nat.le_trans (squeeze_len f.first) hsf); have HSL1 := hid (Nat.le_trans (squeeze_len f.last) hsl)
 have HEW := hid hW; have HEF0 := hid hF; have HEL0 := hid hL; have HPF := hid hPf
 have HA0 := hid hany
 clear hv hzt hzv hsf hsl hany hsa hkids hac hal hn hR hR2 hW hF hL hPf
 go_enter Tryz.func67, Tryz.ntmps67
 go_wp2_with (first
  | ((with_reducible refine K.atO (.box 39 _) ?_); refine wpL_box rfl _ _ rfl _ rfl (flV f (.slice ka f.kids.length kc) (.slice aa n ac)) rfl ?_; intro w1 HB1 HF1 HS1; refine Hid.out ?_))
 obtain ⟨b, hb⟩ : ∃ b, w.heap.size = b := ⟨_, rfl⟩
 rw [hb] at HB1 ⊢
 have c4 : w1.cell? ⟨b, 4, none⟩ = some (.string (sb f.first)) := HB1.out.cell 4
 have c6 : w1.cell? ⟨b, 6, none⟩ = some (.string (sb f.last)) := HB1.out.cell 6
 have HAN := hid (LsIn.fr (D := No) HA0.out HF1.out (fun _ _ _ e => e))
 clear hb HS1 HA0
 refine hid ?_
 go_upto_if 20 with fail
 go_cut [7, 8, 9] (fun s7 s8 s9 wx => s7 = .string (sb W) ∧ s8 = .string (sb F) ∧ s9 = .string (sb L) ∧ Hid (Fr No w1 wx))
 case first =>
  by_cases hs : syn = 1
  ·subst hs
   have HEF : Hid (trimL (squeeze f.first) = F) := hid HEF0.out
   have HEL : Hid (trimR (squeeze f.last) = L) := hid HEL0.out
   have HFO2 : Hid (∀ w, Calls Tryz.prog 90 #[.string (sb v)] w fun e w' => e = .returned (.string (sb W)) ∧ Fr No w w') := hid (by rw [show W = fold v from HEW.out.symm]; exact HFO.out)
   go_wp2_with fail
   refine (HFO2.out w1).mono ?_
   rintro e w2 ⟨rfl, f2⟩
   have HF2 : Hid (Fr No w1 w2) := hid f2
   clear f2 HFO HFO2 c4 c6
   go_wp2_with fail
   refine (HSQF.out w2).mono ?_
   rintro e w3 ⟨rfl, f3⟩
   have HF3 : Hid (Fr No w1 w3) := hid (HF2.out.trans' f3)
   clear f3 HSQF HF2
   go_wp2_with fail
   go_loopw [8] (fun sv wr => ∃ Y : B, sv = .string (sb Y) ∧ Hid (trimL Y = F ∧ Y.length ≤ 4294967000) ∧ Hid (Fr No w1 wr)) (fun sv _ => strLen sv)
   case atStart => exact ⟨_, rfl, hid ⟨HEF.out, HSF1.out⟩, HF3⟩
   case round =>
    obtain ⟨Y, rfl, HY, HFy⟩ := hrel
    obtain ⟨SY, hSY⟩ : ∃ SY, sb Y = SY := ⟨_, rfl⟩
    have HSY := hid hSY
    by_cases hY : Y = []
    ·have zY : (SY.size : Int) = 0 := by rw [← hSY, hY]; rfl
     obtain rfl : F = Y := by rw [← HY.out.1, hY]; rfl
     rw [hSY]
     clear hSY hY
     go_wp2_with fail
     rw [← HSY.out]
     clear zY HSY HY
     refine (HSQL.out _).mono ?_
     rintro e w5 ⟨rfl, f5⟩
     have HF5 : Hid (Fr No w1 w5) := hid (HFy.out.trans' f5)
     clear f5 HFy
     go_wp2_with fail
     go_loopw [9] (fun sv wr => ∃ Y : B, sv = .string (sb Y) ∧ Hid (trimR Y = L ∧ Y.length ≤ 4294967000) ∧ Hid (Fr No w1 wr)) (fun sv _ => strLen sv)
     case atStart => exact ⟨_, rfl, hid ⟨HEL.out, HSL1.out⟩, HF5⟩
     case round =>
      obtain ⟨Y, rfl, HY, HFz⟩ := hrel
      obtain ⟨SY, hSY⟩ : ∃ SY, sb Y = SY := ⟨_, rfl⟩
      have HSY := hid hSY
      by_cases hY : Y = []
      ·have zY : (SY.size : Int) = 0 := by rw [← hSY, hY]; rfl
       have HLY : Hid (SY = sb L) := hid (by rw [← hSY, ← HY.out.1, hY]; rfl)
       rw [hSY]
       clear hSY hY HSY HY
       go_wp2_with fail
       go_meet
       exact ⟨rfl, rfl, by rw [HLY.out], HFz⟩
      ·obtain ⟨r, c, hrc⟩ := last_of hY
       obtain ⟨m, hm⟩ : ∃ m, r.length = m := ⟨_, rfl⟩
       have zY : (SY.size : Int) = m + 1 := by rw [← hSY, sb_size, hrc, List.length_append, hm]; rfl
       have hmb : (m : Int) ≤ 4294967000 := by have := HY.out.2; rw [hrc, List.length_append, hm] at this; simp at this; omega
       have HYC : Hid (Y[m]? = some c) := hid (by rw [hrc, List.getElem?_append_right (by omega), hm, Nat.sub_self]; rfl)
       have HYT : Hid (Y.take m = r) := hid (by rw [hrc]; exact List.take_left' hm)
       have HYM : Hid (m ≤ Y.length) := hid (by rw [hrc, List.length_append]; omega)
       have hpos : (0 : Int) < (m : Int) + 1 := by omega
       have hm1 : (m : Int) + 1 - 1 = (m : Int) := by omega
       have HRC := hid hrc
       rw [hSY]
       by_cases h32 : c = 32
       ·subst h32
        clear hSY hY hrc hm
        go_wp2_with (first
         | ((with_reducible refine K.atO (.index 9 _ _) ?_); refine wpL_valZ (by rfl) (.int .u8 32) (exec_idxB _ _ rfl Y HSY.out m 32 HYC.out _ (by omega) rfl rfl _) ?_)
         | ((with_reducible refine K.atO (.slice 9 _ _ _ _) ?_); refine wpL_valZ (by rfl) (.string (sb r)) (exec_toQ _ _ rfl Y m HSY.out rfl rfl HYM.out r HYT.out _) ?_))
        refine ⟨⟨r, rfl, hid ⟨by rw [← HY.out.1, HRC.out, trimR_blank], by have := HY.out.2; rw [HRC.out, List.length_append] at this; omega⟩, HFz⟩, ?_⟩
        show (sb r).size < SY.size
        rw [← HSY.out, sb_size, sb_size, HRC.out, List.length_append]
        simp
       ·have g1 : ((c.toNat : Int) == 32) = false := beqN (fun e => h32 (UInt8.toNat_inj.1 (by have : (32 : UInt8).toNat = 32 := rfl; omega)))
        have HLY : Hid (SY = sb L) := hid (by rw [← hSY, ← HY.out.1, hrc, trimR_stop r h32])
        clear hSY hY hrc hm h32
        go_wp2_with (first
         | ((with_reducible refine K.atO (.index 9 _ _) ?_); refine wpL_valZ (by rfl) (.int .u8 (c.toNat : Int)) (exec_idxB _ _ rfl Y HSY.out m c HYC.out _ (by omega) rfl rfl _) ?_))
        go_meet
        exact ⟨rfl, rfl, by rw [HLY.out], HFz⟩
    ·obtain ⟨c, r, hrc⟩ : ∃ c r, Y = c :: r := by
      cases Y with
      | nil => exact absurd rfl hY
      | cons c r => exact ⟨c, r, rfl⟩
     obtain ⟨m, hm⟩ : ∃ m, r.length = m := ⟨_, rfl⟩
     have zY : (SY.size : Int) = m + 1 := by rw [← hSY, sb_size, hrc, List.length_cons, hm]; rfl
     have hmb : (m : Int) ≤ 4294967000 := by have := HY.out.2; rw [hrc, List.length_cons, hm] at this; omega
     have HYC : Hid (Y[0]? = some c) := hid (by rw [hrc]; rfl)
     have HYT : Hid (Y.drop 1 = r) := hid (by rw [hrc]; rfl)
     have HYM : Hid (1 ≤ Y.length) := hid (by rw [hrc, List.length_cons]; omega)
     have hpos : (0 : Int) < (m : Int) + 1 := by omega
     have HRC := hid hrc
     rw [hSY]
     by_cases h32 : c = 32
     ·subst h32
      clear hSY hY hrc hm
      go_wp2_with (first
       | ((with_reducible refine K.atO (.index 9 _ _) ?_); refine wpL_valZ (by rfl) (.int .u8 32) (exec_idxB _ _ rfl Y HSY.out 0 32 HYC.out _ rfl rfl rfl _) ?_)
       | ((with_reducible refine K.atO (.slice 9 _ _ _ _) ?_); refine wpL_valZ (by rfl) (.string (sb r)) (exec_fromB _ _ rfl Y HSY.out 1 rfl rfl HYM.out r HYT.out _) ?_))
      refine ⟨⟨r, rfl, hid ⟨by rw [← HY.out.1, HRC.out, trimL_blank], by have := HY.out.2; rw [HRC.out, List.length_cons] at this; omega⟩, HFy⟩, ?_⟩
      show (sb r).size < SY.size
      rw [← HSY.out, sb_size, sb_size, HRC.out, List.length_cons]
      omega
     ·have g1 : ((c.toNat : Int) == 32) = false := beqN (fun e => h32 (UInt8.toNat_inj.1 (by have : (32 : UInt8).toNat = 32 := rfl; omega)))
      obtain rfl : F = Y := by rw [← HY.out.1, hrc, trimL_stop r h32]
      clear hSY hY hrc hm h32
      go_wp2_with (first
       | ((with_reducible refine K.atO (.index 9 _ _) ?_); refine idxZ HSY HYC rfl rfl rfl rfl ?_))
      rw [← HSY.out]
      clear zY HSY HYC HYT HYM hpos HRC hmb g1 HY
      refine (HSQL.out _).mono ?_
      rintro e w5 ⟨rfl, f5⟩
      have HF5 : Hid (Fr No w1 w5) := hid (HFy.out.trans' f5)
      clear f5 HFy
      go_wp2_with fail
      go_loopw [9] (fun sv wr => ∃ Y : B, sv = .string (sb Y) ∧ Hid (trimR Y = L ∧ Y.length ≤ 4294967000) ∧ Hid (Fr No w1 wr)) (fun sv _ => strLen sv)
      case atStart => exact ⟨_, rfl, hid ⟨HEL.out, HSL1.out⟩, HF5⟩
      case round =>
       obtain ⟨Y, rfl, HY, HFz⟩ := hrel
       obtain ⟨SY, hSY⟩ : ∃ SY, sb Y = SY := ⟨_, rfl⟩
       have HSY := hid hSY
       by_cases hY : Y = []
       ·have zY : (SY.size : Int) = 0 := by rw [← hSY, hY]; rfl
        have HLY : Hid (SY = sb L) := hid (by rw [← hSY, ← HY.out.1, hY]; rfl)
        rw [hSY]
        clear hSY hY HSY HY
        go_wp2_with fail
        go_meet
        exact ⟨rfl, rfl, by rw [HLY.out], HFz⟩
       ·obtain ⟨r, c, hrc⟩ := last_of hY
        obtain ⟨m, hm⟩ : ∃ m, r.length = m := ⟨_, rfl⟩
        have zY : (SY.size : Int) = m + 1 := by rw [← hSY, sb_size, hrc, List.length_append, hm]; rfl
        have hmb : (m : Int) ≤ 4294967000 := by have := HY.out.2; rw [hrc, List.length_append, hm] at this; simp at this; omega
        have HYC : Hid (Y[m]? = some c) := hid (by rw [hrc, List.getElem?_append_right (by omega), hm, Nat.sub_self]; rfl)
        have HYT : Hid (Y.take m = r) := hid (by rw [hrc]; exact List.take_left' hm)
        have HYM : Hid (m ≤ Y.length) := hid (by rw [hrc, List.length_append]; omega)
        have hpos : (0 : Int) < (m : Int) + 1 := by omega
        have hm1 : (m : Int) + 1 - 1 = (m : Int) := by omega
        have HRC := hid hrc
        rw [hSY]
        by_cases h32 : c = 32
        ·subst h32
         clear hSY hY hrc hm
         go_wp2_with (first
          | ((with_reducible refine K.atO (.index 9 _ _) ?_); refine wpL_valZ (by rfl) (.int .u8 32) (exec_idxB _ _ rfl Y HSY.out m 32 HYC.out _ (by omega) rfl rfl _) ?_)
          | ((with_reducible refine K.atO (.slice 9 _ _ _ _) ?_); refine wpL_valZ (by rfl) (.string (sb r)) (exec_toQ _ _ rfl Y m HSY.out rfl rfl HYM.out r HYT.out _) ?_))
         refine ⟨⟨r, rfl, hid ⟨by rw [← HY.out.1, HRC.out, trimR_blank], by have := HY.out.2; rw [HRC.out, List.length_append] at this; omega⟩, HFz⟩, ?_⟩
         show (sb r).size < SY.size
         rw [← HSY.out, sb_size, sb_size, HRC.out, List.length_append]
         simp
        ·have g1 : ((c.toNat : Int) == 32) = false := beqN (fun e => h32 (UInt8.toNat_inj.1 (by have : (32 : UInt8).toNat = 32 := rfl; omega)))
         have HLY : Hid (SY = sb L) := hid (by rw [← hSY, ← HY.out.1, hrc, trimR_stop r h32])
         clear hSY hY hrc hm h32
         go_wp2_with (first
          | ((with_reducible refine K.atO (.index 9 _ _) ?_); refine wpL_valZ (by rfl) (.int .u8 (c.toNat : Int)) (exec_idxB _ _ rfl Y HSY.out m c HYC.out _ (by omega) rfl rfl _) ?_))
         go_meet
         exact ⟨rfl, rfl, by rw [HLY.out], HFz⟩
  ·have bs := beqN hs
   have e1 : W = v := by rw [← HEW.out, if_neg hs]
   have e2 : F = f.first := by rw [← HEF0.out, if_neg hs]
   have e3 : L = f.last := by rw [← HEL0.out, if_neg hs]
   have HE := hid (And.intro e1 (And.intro e2 e3))
   clear hs e1 e2 e3
   go_wp2_with fail
   go_meet
   exact ⟨by rw [HE.out.1], by rw [HE.out.2.1], by rw [HE.out.2.2], hid (Fr.refl _ _)⟩
 case rest =>
  obtain ⟨rfl, rfl, rfl, HFz⟩ := hcut
  clear HFO HSQF HSQL c4 c6
  have HF0w := HFz
  have HF0 : Hid (Fr No w _) := hid (HF1.out.trans' HFz.out)
  obtain ⟨SW, hSW⟩ : ∃ SW, sb W = SW := ⟨_, rfl⟩
  obtain ⟨SF, hSF⟩ : ∃ SF, sb F = SF := ⟨_, rfl⟩
  obtain ⟨SL, hSL⟩ : ∃ SL, sb L = SL := ⟨_, rfl⟩
  obtain ⟨lw, hlw⟩ : ∃ lw, W.length = lw := ⟨_, rfl⟩
  obtain ⟨lf, hlf⟩ : ∃ lf, F.length = lf := ⟨_, rfl⟩
  obtain ⟨ll, hll⟩ : ∃ ll, L.length = ll := ⟨_, rfl⟩
  have zw : (SW.size : Int) = lw := by rw [← hSW, sb_size, hlw]
  have zf : (SF.size : Int) = lf := by rw [← hSF, sb_size, hlf]
  have zl : (SL.size : Int) = ll := by rw [← hSL, sb_size, hll]
  have bw : (lw : Int) ≤ 4294967000 := by have := HWL.out; omega
  have bf : (lf : Int) ≤ 4294967000 := by have := HFL.out; omega
  have bl : (ll : Int) ≤ 4294967000 := by have := HLL.out; omega
  have HSW := hid hSW; have HSF := hid hSF; have HSL := hid hSL; have HlW := hid hlw; have HlF := hid hlf; have HlL := hid hll
  rw [hSW, hSF, hSL]
  clear hSW hSF hSL hlw hlf hll
  by_cases h1 : lw < lf
  ·have h1i : (lw : Int) < lf := by omega
   have HRF : Hid (R = false) := hid (by
    rw [← HR.out, hasP_is]
    have : ¬ W.take F.length = F := fun e => by have := congrArg List.length e; rw [List.length_take, HlW.out, HlF.out] at this; omega
    rw [decide_eq_false this, Bool.false_and])
   clear h1
   go_wp2_with fail
   go_ret
   exact ⟨by rw [HRF.out]; rfl, HF0.out⟩
  ·have h1i : ¬ (lw : Int) < lf := by omega
   obtain ⟨H, hH⟩ : ∃ H, W.take lf = H := ⟨_, rfl⟩
   have HH := hid hH
   clear hH
   have HLE := hid (show lf ≤ lw by omega)
   by_cases hpre : H = F
   ·have HNE := hid (show (!decide (H = F)) = false by rw [decide_eq_true hpre]; rfl)
    have HRT : Hid (R = match cutAll (W.drop lf) (f.any.map Pf) with | none => false | some r => Lib.hasSuffix r L) := hid (by rw [← HR.out, hasP_is, HlF.out, HH.out, decide_eq_true hpre, Bool.true_and])
    clear h1 hpre
    go_wp2_with (first
     | ((with_reducible refine K.atO (.slice 9 _ _ _ _) ?_); refine wpL_valZ (by rfl) (.string (sb H)) (exec_toQ _ _ rfl W lf HSW.out rfl rfl (by rw [HlW.out]; exact HLE.out) H HH.out _) ?_)
     | ((with_reducible refine K.atO (.binOp .neq 9 _ _ _) ?_); refine wpL_valZ (by rfl) (.bool false) (exec_neQ _ _ _ rfl H F rfl HSF.out _ HNE.out rfl rfl _) ?_))
    go_loopw [10, 11] (fun av iv wr => ∃ (k i : Nat), av = .int .i64 k ∧ iv = .int .i64 i ∧ i ≤ n ∧ k ≤ lw ∧ Hid (cutAll (W.drop lf) (f.any.map Pf) = cutAll (W.drop k) ((f.any.map Pf).drop i)) ∧ Hid (Fr No w1 wr)) (fun _ iv _ => n - (intOf iv).toNat)
    case atStart => exact ⟨lf, 0, rfl, rfl, Nat.zero_le _, HLE.out, hid (by rw [List.drop_zero]), HF0w⟩
    case round =>
     obtain ⟨k, i, rfl, rfl, hi, hk, HCT, HFw⟩ := hrel
     have c5 : wr.cell? ⟨b, 5, none⟩ = some (.slice aa n ac) := (HB1.out.fr HFw.out id).cell 5
     have hki : (k : Int) ≤ lw := by omega
     have hk0 : (0 : Int) ≤ k := by omega
     by_cases hlt : i < n
     ·obtain ⟨x, hx⟩ : ∃ x, f.any[i]? = some x := ⟨_, List.getElem?_eq_getElem (by rw [HNN.out]; exact hlt)⟩
      have hlti : (i : Int) < n := by omega
      have hi0 : (0 : Int) ≤ i := by omega
      have HLT := hid hlt
      obtain ⟨g, o, cp, c, e1, -, -, hr, -, ⟨rfl, -⟩⟩ := Sl.get (LsIn.fr (D := No) HAN.out HFw.out (fun _ _ _ e => e)) hx
      rw [HNN.out] at e1
      obtain ⟨rfl, rfl⟩ := K.sj e1
      have cx : wr.cell? ⟨g, o + i, none⟩ = some (.string (sb x)) := by have := hr 0 _ rfl; simpa using this
      have HXS := hid (HSA.out x (List.mem_of_getElem? hx))
      have HST : Hid (cutAll (W.drop k) ((f.any.map Pf).drop i) = if findI W k (Pf x) = -1 then none else cutAll (W.drop ((findI W k (Pf x)).toNat + (Pf x).length)) ((f.any.map Pf).drop (i + 1))) := hid (by
       have hd : (f.any.map Pf).drop i = Pf x :: (f.any.map Pf).drop (i + 1) := by
        have hm : (f.any.map Pf)[i]? = some (Pf x) := by rw [List.getElem?_map, hx]; rfl
        obtain ⟨q1, q2⟩ := List.getElem?_eq_some_iff.1 hm
        rw [← q2]
        exact List.drop_eq_getElem_cons q1
       rw [hd, cut_step])
      have HKW := hid hk
      clear hr hx hlt hk
      go_upto_if 81 with fail
      go_cut [12] (fun s12 wx => s12 = .string (sb (Pf x)) ∧ Hid (Fr No w1 wx))
      case first =>
       by_cases hs : syn = 1
       ·have HPQ : Hid (Pf x = squeeze x) := hid (by rw [← HPF.out, if_pos hs])
        subst hs
        go_wp2_with fail
        refine (rsqueeze_any x HXS.out wr).mono ?_
        rintro e wf ⟨rfl, ff⟩
        have HFf := hid (HFw.out.trans' ff)
        clear ff
        go_wp2_with fail
        go_meet
        exact ⟨by rw [HPQ.out], HFf⟩
       ·have HPQ : Hid (Pf x = x) := hid (by rw [← HPF.out, if_neg hs]; rfl)
        have bs := beqN hs
        clear hs
        go_wp2_with fail
        go_meet
        exact ⟨by rw [HPQ.out], HFw⟩
      case rest =>
      obtain ⟨rfl, HFwf⟩ := hcut
      have HPXL : Hid ((Pf x).length ≤ 4294967000) := hid (by
       rw [← HPF.out]
       split
       ·exact Nat.le_trans (squeeze_len x) HXS.out
       ·exact HXS.out)
      obtain ⟨wf, hwf⟩ : ∃ y, y = wc := ⟨_, rfl⟩
      subst hwf
      go_wp2_with fail
      obtain ⟨SP, hSP⟩ : ∃ SP, sb (Pf x) = SP := ⟨_, rfl⟩
      obtain ⟨lp, hlp⟩ : ∃ lp, (Pf x).length = lp := ⟨_, rfl⟩
      have zp : (SP.size : Int) = lp := by rw [← hSP, sb_size, hlp]
      have HSP := hid hSP; have HlP := hid hlp
      have bp : (lp : Int) ≤ 4294967000 := by have := HPXL.out; omega
      have HFI := hid (rfind14_any W k (Pf x) (by have := HWL.out; omega) (by have := HPXL.out; omega) (by rw [HlW.out]; exact HKW.out) wf)
      have hfd := findI_le W (Pf x) k (by rw [HlW.out]; exact HKW.out)
      have hfd2 := HST.out
      obtain ⟨fi, hfi⟩ : ∃ fi, findI W k (Pf x) = fi := ⟨_, rfl⟩
      rw [hfi] at HFI hfd hfd2
      rw [hlp] at hfd hfd2
      rw [HSW.out, hSP] at HFI
      have HFD2 := hid hfd2
      rw [hSP]
      clear hSP hlp hfi hfd2 HST cx c5
      go_wp2_with fail
      refine HFI.out.mono ?_
      rintro e w6 ⟨rfl, f6⟩
      have HF6 := hid (HFwf.out.trans' f6)
      clear f6 HFI
      rcases hfd with rfl | ⟨q, rfl, hq⟩
      ·have HRF : Hid (R = false) := hid (by rw [HRT.out, HCT.out, HFD2.out, if_pos rfl])
       go_wp2_with fail
       go_ret
       exact ⟨by rw [HRF.out]; rfl, HF1.out.trans' HF6.out⟩
      ·have hq0 : ¬ ((q : Int) < 0) := by omega
       have hqb : (q : Int) + lp ≤ lw := by rw [HlW.out] at hq; omega
       have HQ2 := hid (show q + lp ≤ lw by rw [HlW.out] at hq; exact hq)
       have HNX : Hid (cutAll (W.drop lf) (f.any.map Pf) = cutAll (W.drop (q + lp)) ((f.any.map Pf).drop (i + 1))) := hid (by rw [HCT.out, HFD2.out, if_neg (by omega), show ((q : Int)).toNat = q from rfl])
       clear hq
       go_wp2_with fail
       refine ⟨⟨q + lp, i + 1, by go_num, by go_num, HLT.out, HQ2.out, HNX, HF6⟩, ?_⟩
       have := HLT.out
       simp [intOf]; omega
     ·obtain rfl : i = n := by omega
      have HRS : Hid (R = (decide (ll ≤ lw - k) && decide (W.drop (lw - ll) = L))) := hid (by
       have hdn : (f.any.map Pf).drop i = [] := List.drop_of_length_le (by rw [List.length_map, HNN.out]; exact Nat.le_refl _)
       rw [HRT.out, HCT.out, hdn]
       show Lib.hasSuffix (W.drop k) L = _
       rw [suf_is, List.length_drop, HlW.out, HlL.out, List.drop_drop]
       by_cases h : ll ≤ lw - k
       ·rw [show k + (lw - k - ll) = lw - ll by omega]
       ·rw [decide_eq_false h, Bool.false_and, Bool.false_and])
      by_cases hle : ll ≤ lw - k
      ·have hlei : (ll : Int) ≤ (lw : Int) - k := by omega
       obtain ⟨d, hd⟩ : ∃ d : Nat, lw - ll = d := ⟨_, rfl⟩
       have hdi : (lw : Int) - ll = (d : Int) := by omega
       have hd0 : (0 : Int) ≤ d := by omega
       have hdl : (d : Int) ≤ lw := by omega
       obtain ⟨T, hT⟩ : ∃ T, W.drop d = T := ⟨_, rfl⟩
       obtain ⟨bb, hbb⟩ : ∃ bb, decide (T = L) = bb := ⟨_, rfl⟩
       have HT := hid hT; have HBB := hid hbb
       have HRF : Hid (R = bb) := hid (by rw [HRS.out, decide_eq_true hle, hd, hT, hbb, Bool.true_and])
       have HDL := hid (show d ≤ lw by omega)
       clear hle hd hT hbb
       go_wp2_with (first
        | ((with_reducible refine K.atO (.slice 9 _ _ _ _) ?_); refine wpL_valZ (by rfl) (.string (sb T)) (exec_fromB _ _ rfl W HSW.out d rfl rfl (by rw [HlW.out]; exact HDL.out) T HT.out _) ?_)
        | ((with_reducible refine K.atO (.binOp .eql 9 _ _ _) ?_); refine wpL_valZ (by rfl) (.bool bb) (exec_eqQ _ _ _ rfl T L rfl HSL.out _ HBB.out rfl rfl _) ?_))
       go_ret
       exact ⟨by rw [HRF.out]; rfl, HF1.out.trans' HFw.out⟩
      ·have hlei : ¬ (ll : Int) ≤ (lw : Int) - k := by omega
       have HRF : Hid (R = false) := hid (by rw [HRS.out, decide_eq_false hle, Bool.false_and])
       clear hle
       go_wp2_with fail
       go_ret
       exact ⟨by rw [HRF.out]; rfl, HF1.out.trans' HFw.out⟩
   ·have HNE := hid (show (!decide (H = F)) = true by rw [decide_eq_false hpre]; rfl)
    have HRF : Hid (R = false) := hid (by rw [← HR.out, hasP_is, HlF.out, HH.out, decide_eq_false hpre, Bool.false_and])
    clear h1 hpre
    go_wp2_with (first
     | ((with_reducible refine K.atO (.slice 9 _ _ _ _) ?_); refine wpL_valZ (by rfl) (.string (sb H)) (exec_toQ _ _ rfl W lf HSW.out rfl rfl (by rw [HlW.out]; exact HLE.out) H HH.out _) ?_)
     | ((with_reducible refine K.atO (.binOp .neq 9 _ _ _) ?_); refine wpL_valZ (by rfl) (.bool true) (exec_neQ _ _ _ rfl H F rfl HSF.out _ HNE.out rfl rfl _) ?_))
    go_ret
    exact ⟨by rw [HRF.out]; rfl, HF0.out⟩
end Go.Proofs.YtgbiicipkbpmeaaGreatDoor.FT
