/-
  Part 5 of the proof: DnQ, DnT, ScF, ScG.
-/
import Derived.Test.YtgbiicipkbpmeaaGreatDoorFe01
import Derived.Test.YtgbiicipkbpmeaaGreatDoorFe04
import Derived.Lib.OthersKept
import Derived.Laws.StructEq
set_option linter.unusedSimpArgs false
set_option linter.unusedVariables false
namespace Go.Proofs.YtgbiicipkbpmeaaGreatDoor.DN
set_option maxRecDepth 100000
set_option maxHeartbeats 128000000
open Go.RowKit K BE
def Found (b : Bool) (w : World) (e : Ending) (w' : World) : Prop := ∃ n : Int, e = .returned (.int .i64 n) ∧ decide (0 ≤ n) = b ∧ -1 ≤ n ∧ n ≤ 9223372036854775807 ∧ Fr No w w'
theorem indexAv {α : Type} (f : FuncId) (cap : List Value) (q : α → Bool) (p : World → α → List Value → Prop) (E : Nat → Prop) (v0 : Value) (X : List α) (w : World) (hp : ∀ w w' x c, p w x c → Fr No w w' → p w' x c)
  (h0 : Sl 2 (p w) E w v0 X) (hent : ∀ (vs : Array Value) (w : World), (callFunc f vs).run Tryz.prog w = .ok (.enter f vs) w)
  (hf : ∀ x ∈ X, ∀ c wv, p wv x c → Fr No w wv → Calls Tryz.prog f (Value.agg c.toArray :: cap).toArray wv fun e w' => e = .returned (.bool (q x)) ∧ Fr No wv w') :
  Calls Tryz.prog 222 #[v0, .func (.func f) #[] cap.toArray] w (Found (X.any q) w) := by
 obtain ⟨a, c, rfl, -, hl0⟩ := h0.form
 have HX0 := hid h0
 obtain ⟨n, hn⟩ : ∃ n, X.length = n := ⟨_, rfl⟩
 rw [hn] at HX0 hl0 ⊢
 have HNN := hid hn; have HP := hid hp; have HE := hid hent; have HF := hid hf
 obtain ⟨R, hR⟩ : ∃ R, X.any q = R := ⟨_, rfl⟩
 rw [hR]
 have HR := hid hR
 have hni : (n : Int) ≤ 140737488351232 := by omega
 clear hp h0 hent hf hn hR
 go_enter Tryz.func222, Tryz.ntmps222
 go_wp2_with fail
 go_loopw [8] (fun iv wr => ∃ (i : Nat), iv = .int .i64 i ∧ i ≤ n ∧ Hid ((X.take i).any q = false ∧ Fr No w wr)) (fun iv _ => n - (intOf iv).toNat)
 case atStart => exact ⟨0, rfl, Nat.zero_le _, hid ⟨rfl, Fr.refl _ _⟩⟩
 case round =>
  obtain ⟨i, rfl, hi, HI⟩ := hrel
  by_cases hlt : i < n
  ·have hiX : i < X.length := by rw [HNN.out]; exact hlt
   obtain ⟨x, hx⟩ : ∃ x, X[i]? = some x := ⟨_, List.getElem?_eq_getElem hiX⟩
   have HXM := hid (List.mem_of_getElem? hx)
   have HNX : Hid ((X.take (i + 1)).any q = (q x || false)) := hid (by
    have hxx : X[i] = x := by rw [List.getElem?_eq_getElem hiX] at hx; exact Option.some.inj hx
    rw [List.take_succ_eq_append_getElem hiX, List.any_append, HI.out.1, hxx]; simp)
   have hlti : (i : Int) < n := by omega
   have hi0 : (0 : Int) ≤ i := by omega
   obtain ⟨g, o, cp, c, e1, hEg, hgw, hr, hc, hxa⟩ := (HX0.out.fr HI.out.2 (fun _ _ _ e => e) (fun x c _ h => HP.out _ _ x c h HI.out.2)).get hx
   rw [HNN.out] at e1
   obtain ⟨rfl, rfl⟩ := K.sj e1
   have HXA := hid hxa; have HC := hid hc; have HRR := hid hr
   have HI3 : Hid ((Tryz.prog.info? 191).map (·.size) = some c.length) := hid (by rw [hc]; exact infoAv)
   clear hc hEg hgw hr hxa hx
   go_wp2_with (first
    | ((with_reducible refine K.atO (.load 191 _) ?_); refine wpL_load rfl _ _ rfl g (o + i * 2) rfl c _ HRR.out rfl rfl HI3.out ?_)
    | ((with_reducible refine K.atO (.call { callee := .value _, args := _, argTypes := _ }) ?_); refine wpL_callP rfl _ [_] _ rfl f cap rfl HE.out (Value.agg c.toArray :: cap) rfl ?_))
   refine (HF.out x HXM.out c wr HXA.out HI.out.2).mono ?_
   rintro e w4 ⟨rfl, f4⟩
   refine .inl ⟨_, rfl, ?_⟩
   have HF4 := hid (HI.out.2.trans' f4)
   have HLT := hid hlt
   clear f4 hlt
   cases hq : q x with
   | true =>
    have HQ := hid hq
    clear hq
    go_wp2_with fail
    go_ret
    refine ⟨i, rfl, ?_, by omega, by omega, HF4.out⟩
    rw [← HR.out]
    have h1 : X.any q = true := List.any_eq_true.2 ⟨x, HXM.out, HQ.out⟩
    rw [h1]
    simp
   | false =>
    have HQ := hid hq
    clear hq
    go_wp2_with fail
    go_roundw
    case rel => exact ⟨i + 1, by go_num, HLT.out, hid ⟨by rw [HNX.out, HQ.out]; rfl, HF4.out⟩⟩
    case measure => have := HLT.out; simp [intOf]; omega
  ·obtain rfl : i = n := by omega
   go_wp2_with fail
   go_ret
   refine ⟨-1, rfl, ?_, by omega, by omega, HI.out.2⟩
   rw [← HR.out]
   have h1 := HI.out.1
   rw [List.take_of_length_le (by rw [HNN.out]; exact Nat.le_refl _)] at h1
   rw [h1]
   rfl
theorem containsAv {α : Type} (f : FuncId) (cap : List Value) (q : α → Bool) (p : World → α → List Value → Prop) (E : Nat → Prop) (v0 : Value) (X : List α) (w : World) (hp : ∀ w w' x c, p w x c → Fr No w w' → p w' x c)
  (h0 : Sl 2 (p w) E w v0 X) (hent : ∀ (vs : Array Value) (w : World), (callFunc f vs).run Tryz.prog w = .ok (.enter f vs) w)
  (hf : ∀ x ∈ X, ∀ c wv, p wv x c → Fr No w wv → Calls Tryz.prog f (Value.agg c.toArray :: cap).toArray wv fun e w' => e = .returned (.bool (q x)) ∧ Fr No wv w') :
  Calls Tryz.prog 191 #[v0, .func (.func f) #[] cap.toArray] w fun e w' => e = .returned (.bool (X.any q)) ∧ Fr No w w' := by
 have H := hid (indexAv f cap q p E v0 X w hp h0 hent hf)
 obtain ⟨a, c, rfl, -, -⟩ := h0.form
 obtain ⟨R, hR⟩ : ∃ R, X.any q = R := ⟨_, rfl⟩
 obtain ⟨n, hn⟩ : ∃ n, X.length = n := ⟨_, rfl⟩
 rw [hR] at H ⊢
 rw [hn] at H ⊢
 clear hp h0 hent hf hR hn
 go_enter Tryz.func191, Tryz.ntmps191
 go_wp2_with fail
 refine H.out.mono ?_
 rintro e w2 ⟨m, rfl, hm, h1, h2, f2⟩
 have HF := hid f2
 clear f2
 have HM := hid hm
 clear hm
 go_wp2_with fail
 go_ret
 exact ⟨by rw [← HM.out]; rfl, HF.out⟩
theorem indexRd {α : Type} (f : FuncId) (cap : List Value) (q : α → Bool) (p : World → α → Value → Prop) (E : Nat → Prop) (v0 : Value) (X : List α) (w : World) (hp : ∀ w w' x c, p w x c → Fr No w w' → p w' x c)
  (h0 : Sl 1 (fun x c => ∃ v, c = [v] ∧ p w x v) E w v0 X) (hent : ∀ (vs : Array Value) (w : World), (callFunc f vs).run Tryz.prog w = .ok (.enter f vs) w)
  (hf : ∀ x ∈ X, ∀ c wv, p wv x c → Fr No w wv → Calls Tryz.prog f (c :: cap).toArray wv fun e w' => e = .returned (.bool (q x)) ∧ Fr No wv w') :
  Calls Tryz.prog 189 #[v0, .func (.func f) #[] cap.toArray] w (Found (X.any q) w) := by
 obtain ⟨a, c, rfl, -, hl0⟩ := h0.form
 have HX0 := hid h0
 obtain ⟨n, hn⟩ : ∃ n, X.length = n := ⟨_, rfl⟩
 rw [hn] at HX0 hl0 ⊢
 have HNN := hid hn; have HP := hid hp; have HE := hid hent; have HF := hid hf
 obtain ⟨R, hR⟩ : ∃ R, X.any q = R := ⟨_, rfl⟩
 rw [hR]
 have HR := hid hR
 have hni : (n : Int) ≤ 140737488351232 := by omega
 clear hp h0 hent hf hn hR
 go_enter Tryz.func189, Tryz.ntmps189
 go_wp2_with fail
 go_loopw [8] (fun iv wr => ∃ (i : Nat), iv = .int .i64 i ∧ i ≤ n ∧ Hid ((X.take i).any q = false ∧ Fr No w wr)) (fun iv _ => n - (intOf iv).toNat)
 case atStart => exact ⟨0, rfl, Nat.zero_le _, hid ⟨rfl, Fr.refl _ _⟩⟩
 case round =>
  obtain ⟨i, rfl, hi, HI⟩ := hrel
  by_cases hlt : i < n
  ·have hiX : i < X.length := by rw [HNN.out]; exact hlt
   obtain ⟨x, hx⟩ : ∃ x, X[i]? = some x := ⟨_, List.getElem?_eq_getElem hiX⟩
   have HXM := hid (List.mem_of_getElem? hx)
   have HNX : Hid ((X.take (i + 1)).any q = (q x || false)) := hid (by
    have hxx : X[i] = x := by rw [List.getElem?_eq_getElem hiX] at hx; exact Option.some.inj hx
    rw [List.take_succ_eq_append_getElem hiX, List.any_append, HI.out.1, hxx]; simp)
   have hlti : (i : Int) < n := by omega
   have hi0 : (0 : Int) ≤ i := by omega
   obtain ⟨g, o, cp, c, e1, hEg, hgw, hr, hc, hxa⟩ := (Sl.fr (p' := fun x c => ∃ v, c = [v] ∧ p wr x v) HX0.out HI.out.2 (fun _ _ _ e => e) (fun x c _ h => ⟨h.choose, h.choose_spec.1, HP.out _ _ x _ h.choose_spec.2 HI.out.2⟩)).get hx
   rw [HNN.out] at e1
   obtain ⟨rfl, rfl⟩ := K.sj e1
   obtain ⟨c, rfl, hxa⟩ := hxa
   have hcell : wr.cell? ⟨g, o + i, none⟩ = some c := by have := hr 0 c rfl; simpa using this
   have HXA := hid hxa
   clear hc hEg hgw hr hxa hx
   go_wp2_with (first
    | ((with_reducible refine K.atO (.call { callee := .value _, args := _, argTypes := _ }) ?_); refine wpL_callP rfl _ [_] _ rfl f cap rfl HE.out (c :: cap) rfl ?_))
   refine (HF.out x HXM.out c wr HXA.out HI.out.2).mono ?_
   rintro e w4 ⟨rfl, f4⟩
   refine .inl ⟨_, rfl, ?_⟩
   have HF4 := hid (HI.out.2.trans' f4)
   have HLT := hid hlt
   clear f4 hlt
   cases hq : q x with
   | true =>
    have HQ := hid hq
    clear hq
    go_wp2_with fail
    go_ret
    refine ⟨i, rfl, ?_, by omega, by omega, HF4.out⟩
    rw [← HR.out]
    have h1 : X.any q = true := List.any_eq_true.2 ⟨x, HXM.out, HQ.out⟩
    rw [h1]
    simp
   | false =>
    have HQ := hid hq
    clear hq
    go_wp2_with fail
    go_roundw
    case rel => exact ⟨i + 1, by go_num, HLT.out, hid ⟨by rw [HNX.out, HQ.out]; rfl, HF4.out⟩⟩
    case measure => have := HLT.out; simp [intOf]; omega
  ·obtain rfl : i = n := by omega
   go_wp2_with fail
   go_ret
   refine ⟨-1, rfl, ?_, by omega, by omega, HI.out.2⟩
   rw [← HR.out]
   have h1 := HI.out.1
   rw [List.take_of_length_le (by rw [HNN.out]; exact Nat.le_refl _)] at h1
   rw [h1]
   rfl
theorem containsRd {α : Type} (f : FuncId) (cap : List Value) (q : α → Bool) (p : World → α → Value → Prop) (E : Nat → Prop) (v0 : Value) (X : List α) (w : World) (hp : ∀ w w' x c, p w x c → Fr No w w' → p w' x c)
  (h0 : Sl 1 (fun x c => ∃ v, c = [v] ∧ p w x v) E w v0 X) (hent : ∀ (vs : Array Value) (w : World), (callFunc f vs).run Tryz.prog w = .ok (.enter f vs) w)
  (hf : ∀ x ∈ X, ∀ c wv, p wv x c → Fr No w wv → Calls Tryz.prog f (c :: cap).toArray wv fun e w' => e = .returned (.bool (q x)) ∧ Fr No wv w') :
  Calls Tryz.prog 152 #[v0, .func (.func f) #[] cap.toArray] w fun e w' => e = .returned (.bool (X.any q)) ∧ Fr No w w' := by
 have H := hid (indexRd f cap q p E v0 X w hp h0 hent hf)
 obtain ⟨a, c, rfl, -, -⟩ := h0.form
 obtain ⟨R, hR⟩ : ∃ R, X.any q = R := ⟨_, rfl⟩
 obtain ⟨n, hn⟩ : ∃ n, X.length = n := ⟨_, rfl⟩
 rw [hR] at H ⊢
 rw [hn] at H ⊢
 clear hp h0 hent hf hR hn
 go_enter Tryz.func152, Tryz.ntmps152
 go_wp2_with fail
 refine H.out.mono ?_
 rintro e w2 ⟨m, rfl, hm, h1, h2, f2⟩
 have HF := hid f2
 clear f2
 have HM := hid hm
 clear hm
 go_wp2_with fail
 go_ret
 exact ⟨by rw [← HM.out]; rfl, HF.out⟩
def letN (n : Nat) : Bool := decide (97 ≤ n ∧ n ≤ 122) || decide (65 ≤ n ∧ n ≤ 90)
def digN (n : Nat) : Bool := decide (48 ≤ n ∧ n ≤ 57)
theorem isLetter_any (n : Nat) (w : World) : Calls Tryz.prog 165 #[.int .i32 (n : Int)] w fun e w' => e = .returned (.bool (letN n)) ∧ w' = w := by
 have h : (n < 65 ∧ letN n = false) ∨ ((65 ≤ n ∧ n ≤ 90) ∧ letN n = true) ∨ ((90 < n ∧ n < 97) ∧ letN n = false) ∨ ((97 ≤ n ∧ n ≤ 122) ∧ letN n = true) ∨ (122 < n ∧ letN n = false) := by
  unfold letN
  simp only [Bool.or_eq_true, Bool.or_eq_false_iff, decide_eq_true_eq, decide_eq_false_iff_not]
  omega
 rcases h with ⟨h1, h2⟩ | ⟨⟨h1, h3⟩, h2⟩ | ⟨⟨h1, h3⟩, h2⟩ | ⟨⟨h1, h3⟩, h2⟩ | ⟨h1, h2⟩
 ·rw [h2]; clear h2
  have a1 : ¬ (97 : Int) ≤ n := by omega
  have a2 : ¬ (65 : Int) ≤ n := by omega
  go_enter Tryz.func165, Tryz.ntmps165
  go_wp2
  go_ret
  exact ⟨rfl, rfl⟩
 ·rw [h2]; clear h2
  have a1 : ¬ (97 : Int) ≤ n := by omega
  have a2 : (65 : Int) ≤ n := by omega
  have a3 : (n : Int) ≤ 90 := by omega
  go_enter Tryz.func165, Tryz.ntmps165
  go_wp2
  go_ret
  exact ⟨rfl, rfl⟩
 ·rw [h2]; clear h2
  have a1 : ¬ (97 : Int) ≤ n := by omega
  have a2 : (65 : Int) ≤ n := by omega
  have a3 : ¬ (n : Int) ≤ 90 := by omega
  go_enter Tryz.func165, Tryz.ntmps165
  go_wp2
  go_ret
  exact ⟨rfl, rfl⟩
 ·rw [h2]; clear h2
  have a1 : (97 : Int) ≤ n := by omega
  have a2 : (n : Int) ≤ 122 := by omega
  go_enter Tryz.func165, Tryz.ntmps165
  go_wp2
  go_ret
  exact ⟨rfl, rfl⟩
 ·rw [h2]; clear h2
  have a1 : (97 : Int) ≤ n := by omega
  have a2 : ¬ (n : Int) ≤ 122 := by omega
  have a3 : (65 : Int) ≤ n := by omega
  have a4 : ¬ (n : Int) ≤ 90 := by omega
  go_enter Tryz.func165, Tryz.ntmps165
  go_wp2
  go_ret
  exact ⟨rfl, rfl⟩
theorem isDigit_any (n : Nat) (w : World) : Calls Tryz.prog 166 #[.int .i32 (n : Int)] w fun e w' => e = .returned (.bool (digN n)) ∧ w' = w := by
 have h : (n < 48 ∧ digN n = false) ∨ ((48 ≤ n ∧ n ≤ 57) ∧ digN n = true) ∨ (57 < n ∧ digN n = false) := by
  unfold digN
  simp only [decide_eq_true_eq, decide_eq_false_iff_not]
  omega
 rcases h with ⟨h1, h2⟩ | ⟨⟨h1, h3⟩, h2⟩ | ⟨h1, h2⟩
 ·rw [h2]; clear h2
  have a1 : ¬ (48 : Int) ≤ n := by omega
  go_enter Tryz.func166, Tryz.ntmps166
  go_wp2
  go_ret
  exact ⟨rfl, rfl⟩
 ·rw [h2]; clear h2
  have a1 : (48 : Int) ≤ n := by omega
  have a2 : (n : Int) ≤ 57 := by omega
  go_enter Tryz.func166, Tryz.ntmps166
  go_wp2
  go_ret
  exact ⟨rfl, rfl⟩
 ·rw [h2]; clear h2
  have a1 : (48 : Int) ≤ n := by omega
  have a2 : ¬ (n : Int) ≤ 57 := by omega
  go_enter Tryz.func166, Tryz.ntmps166
  go_wp2
  go_ret
  exact ⟨rfl, rfl⟩
def okN (first : Bool) (n : Nat) : Bool := letN n || (!first && (digN n || n == 45))
theorem ok_nat (first : Bool) (c : UInt8) : okAt first c = okN first c.toNat := by
 have := u8_all (fun c => okAt first c == okN first c.toNat) (by cases first <;> decide +kernel) c
 simpa using this
theorem okN_high (first : Bool) (n : Nat) (h : 128 ≤ n) : okN first n = false := by
 unfold okN letN digN
 simp
 omega
def okTo (s : B) (i : Nat) : Prop := ∀ j c, j < i → s[j]? = some c → okAt (j == 0) c = true
theorem typ_len {s : B} (h : s.length = 0 ∨ 20 < s.length) : typ s = false := by
 unfold typ
 rcases h with h | h
 ·rw [decide_eq_false (show ¬ 1 ≤ s.length by omega)]; rfl
 ·rw [decide_eq_false (show ¬ s.length ≤ 20 by omega)]; simp
theorem typ_all {s : B} (h1 : 1 ≤ s.length) (h2 : s.length ≤ 20) : typ s = true ↔ okTo s s.length := by
 unfold typ okTo
 rw [decide_eq_true h1, decide_eq_true h2]
 cases s with
 | nil => simp at h1
 | cons c r =>
  simp only [Bool.true_and, Bool.and_eq_true, List.all_eq_true]
  constructor
  ·rintro ⟨h3, h4⟩ j d hj hd
   cases j with
   | zero =>
    obtain rfl : c = d := by simpa using hd
    exact h3
   | succ j => exact h4 d (List.mem_of_getElem? (by simpa using hd))
  ·intro h
   refine ⟨h 0 c (by simp) rfl, fun d hd => ?_⟩
   obtain ⟨j, hj⟩ := List.mem_iff_getElem?.1 hd
   exact h (j + 1) d (by have := (List.getElem?_eq_some_iff.1 hj).1; simp; omega) (by simpa using hj)
theorem typ_no {s : B} {i : Nat} {c : UInt8} (hc : s[i]? = some c) (h : okAt (i == 0) c = false) : typ s = false := by
 by_cases h1 : 1 ≤ s.length ∧ s.length ≤ 20
 ·cases ht : typ s with
  | false => rfl
  | true =>
   have := (typ_all h1.1 h1.2).1 ht i c (List.getElem?_eq_some_iff.1 hc).1 hc
   rw [h] at this
   cases this
 ·exact typ_len (by omega)
theorem iterAt_fr {w : World} {k : Nat} {s : ByteArray} {pos : Nat} : Fr (fun j => j = k) w (w.iterAt k s pos) := ⟨rfl, rfl, rfl, by rw [Lib.iterAt_size]; exact Nat.le_refl _, fun j _ hn => Lib.iterAt_other w k j s pos hn⟩
theorem empty_sb (l : B) : (sb l).toList.isEmpty = l.isEmpty := by rw [ByteArray.toList_eq, sb_list]
theorem nil_sb (l : B) : ((sb l).toList = []) = (l = []) := by rw [ByteArray.toList_eq, sb_list]
theorem type_any (s : B) (w : World) : Calls Tryz.prog 127 #[.string (sb s)] w fun e w' => e = .returned (.bool (typ s)) ∧ Fr No w w' := by
 by_cases h00 : s = []
 ·subst h00
  have hT : typ [] = false := rfl
  have he : (sb []).toList.isEmpty = true := empty_sb []
  have hz : (sb []).size = 0 := rfl
  rw [hT]
  obtain ⟨S, hS⟩ : ∃ S, sb [] = S := ⟨_, rfl⟩
  rw [hS] at he hz ⊢
  clear hT hS
  go_enter Tryz.func127, Tryz.ntmps127
  go_wp2
  go_ret
  exact ⟨rfl, Fr.refl _ _⟩
 ·have hz := sb_size s
  have hzl := sb_list s
  have hemp : (sb s).toList.isEmpty = false := by rw [empty_sb]; cases s with
   | nil => exact absurd rfl h00
   | cons _ _ => rfl
  have hnil : ¬ (sb s).toList = [] := by rw [nil_sb]; exact h00
  have hpos := List.length_pos_iff.2 h00
  obtain ⟨n, hn⟩ : ∃ n, s.length = n := ⟨_, rfl⟩
  obtain ⟨T, hT⟩ : ∃ T, typ s = T := ⟨_, rfl⟩
  have HNN := hid hn; have HT := hid hT
  rw [hn] at hz hpos
  by_cases h0 : 20 < n
  ·have hTf : T = false := by rw [← hT]; exact typ_len (by omega)
   rw [hT, hTf]
   obtain ⟨S, hS⟩ : ∃ S, sb s = S := ⟨_, rfl⟩
   rw [hS] at hz hemp hnil ⊢
   have hszi : (20 : Int) < (S.size : Int) := by omega
   clear hn hT hTf hz hzl hS h00 h0 hpos
   go_enter Tryz.func127, Tryz.ntmps127
   go_wp2
   go_ret
   exact ⟨rfl, Fr.refl _ _⟩
  ·have h1 : 1 ≤ n := by omega
   have h2 : n ≤ 20 := by omega
   rw [hT]
   obtain ⟨S, hS⟩ : ∃ S, sb s = S := ⟨_, rfl⟩
   have HZL : Hid (S.data.toList = s) := hid (by rw [← hS]; exact hzl)
   rw [hS] at hz hemp hnil ⊢
   have hszi : (S.size : Int) = n := by omega
   have hszl : ¬ (20 : Int) < n := by omega
   have HZ := hid hz
   clear h0 hn hT hz hzl hS h00 hpos
   obtain ⟨g, hg⟩ : ∃ g, w.heap.size = g := ⟨_, rfl⟩
   have HG := hid hg
   go_enter Tryz.func127, Tryz.ntmps127
   go_wp2_with fail
   try rw [hg]
   obtain ⟨w1, hw1⟩ : ∃ w1, w.iter S 0 = w1 := ⟨_, rfl⟩
   have HI0 : Hid (w1.heap[g]? = some (.stringIter S 0) ∧ Fr No w w1) := hid ⟨by rw [← hw1, ← hg]; exact World.iter_heap w S 0, by rw [← hw1]; exact (Fr.refl No w).alloc _⟩
   first | rw [hw1] | skip
   go_loopw [] (fun wr => ∃ (i : Nat), i ≤ n ∧ Hid (okTo s i) ∧ Hid (wr.heap[g]? = some (.stringIter S i)) ∧ Hid (Fr No w wr)) (fun wr => n - wr.iterPos g)
   case atStart => exact ⟨0, Nat.zero_le _, hid (fun j c hj => by omega), hid HI0.out.1, hid HI0.out.2⟩
   case round =>
    obtain ⟨i, hi, HOK, HIT, HFR⟩ := hrel
    clear HI0 hw1 hg
    by_cases hlt : i < n
    ·obtain ⟨c, hc⟩ : ∃ c, s[i]? = some c := ⟨_, List.getElem?_eq_getElem (by rw [HNN.out]; exact hlt)⟩
     have hltS : i < S.size := by rw [HZ.out]; exact hlt
     have hSc : S[i]'hltS = c := by
      have h := hc
      rw [← HZL.out, List.getElem?_eq_getElem (by simpa using hltS)] at h
      exact Option.some.inj h
     have hnx : ∀ ty, (Instr.next (.pointer (some ⟨g, 0, none⟩)) true ty).run Tryz.prog wr = _ := fun ty => Lib.run_next_any_at wr g S i ty HIT.out hltS
     have hit2 := Lib.iterAt_heap wr g S i (i + (Utf8.decode S i).2) HIT.out
     have hok : okAt (i == 0) c = okN (i == 0) (Utf8.decode S i).1 ∧ (okN (i == 0) (Utf8.decode S i).1 = true → (Utf8.decode S i).2 = 1) := by
      rw [ok_nat]
      by_cases ha : c.toNat < 128
      ·have h := decode_ascii S i hltS (by rw [hSc]; exact ha)
       rw [hSc] at h
       rw [h]
       exact ⟨rfl, fun _ => rfl⟩
      ·have h := (decode_high S i hltS (by rw [hSc]; omega)).1
       rw [okN_high _ _ h, okN_high _ _ (by omega)]
       exact ⟨rfl, fun h => by cases h⟩
     obtain ⟨R, hR⟩ : ∃ R, (Utf8.decode S i).1 = R := ⟨_, rfl⟩
     obtain ⟨M, hM⟩ : ∃ M, (Utf8.decode S i).2 = M := ⟨_, rfl⟩
     obtain ⟨W, hW⟩ : ∃ W, wr.iterAt g S (i + M) = W := ⟨_, rfl⟩
     rw [hR, hM] at hnx hok
     rw [hM] at hit2
     rw [hW] at hnx hit2
     have hfW : Fr No w W := by rw [← hW]; exact HFR.out.trans iterAt_fr (fun k e => .inr (by rw [HG.out]; have e : k = g := e; omega))
     have HFW := hid hfW
     have HIT2 := hid hit2
     have HNX : Hid (okN (i == 0) R = true → okTo s (i + 1) ∧ M = 1) := hid (fun h => by
      refine ⟨fun j d hj hd => ?_, hok.2 h⟩
      by_cases hji : j = i
      ·subst hji
       rw [hc] at hd
       obtain rfl := Option.some.inj hd
       rw [hok.1, h]
      ·exact HOK.out j d (by omega) hd)
     have HNO : Hid (okN (i == 0) R = false → T = false) := hid (fun h => by rw [← HT.out]; exact typ_no hc (by rw [hok.1, h]))
     have HLT := hid hlt
     have hi0 : (0 : Int) ≤ i := by omega
     have HPOS := hid (show wr.iterPos g = i by unfold World.iterPos; rw [HIT.out])
     clear hc hltS hSc hit2 hok hR hM hW hfW HIT HOK hlt hi
     cases hl : letN R with
     | true =>
      obtain ⟨k1, k2⟩ := HNX.out (by unfold okN; rw [hl]; rfl)
      subst k2
      have HL := hid (fun w => isLetter_any R w)
      rw [hl] at HL
      have HK1 := hid k1
      clear hl HNX HNO k1
      go_wp2_with fail
      refine (HL.out _).mono ?_
      rintro e w3 ⟨rfl, rfl⟩
      go_wp2_with fail
      refine ⟨⟨i + 1, HLT.out, HK1, HIT2, HFW⟩, ?_⟩
      have h5 := HIT2.out
      have h6 := HLT.out
      rw [HPOS.out]
      unfold World.iterPos
      rw [h5]
      show n - (i + 1) < n - i
      omega
     | false =>
      have HL := hid (fun w => isLetter_any R w)
      rw [hl] at HL
      by_cases hz0 : i = 0
      ·subst hz0
       have hTf := HNO.out (by unfold okN; rw [hl]; rfl)
       subst hTf
       clear hl HNX HNO
       go_wp2_with fail
       refine (HL.out _).mono ?_
       rintro e w3 ⟨rfl, rfl⟩
       go_wp2_with fail
       go_ret
       exact ⟨rfl, HFW.out⟩
      ·have hz1 : ¬ (i : Int) = 0 := by omega
       have HD := hid (fun w => isDigit_any R w)
       have hzb : (i == 0) = false := by simpa using hz0
       cases hd : digN R with
       | true =>
        obtain ⟨k1, k2⟩ := HNX.out (by unfold okN; rw [hl, hd, hzb]; rfl)
        subst k2
        rw [hd] at HD
        have HK1 := hid k1
        clear hl hd HNX HNO k1 hzb hz0
        go_wp2_with fail
        refine (HL.out _).mono ?_
        rintro e w3 ⟨rfl, rfl⟩
        go_wp2_with fail
        refine (HD.out _).mono ?_
        rintro e w4 ⟨rfl, rfl⟩
        go_wp2_with fail
        refine ⟨⟨i + 1, HLT.out, HK1, HIT2, HFW⟩, ?_⟩
        have h5 := HIT2.out
        have h6 := HLT.out
        rw [HPOS.out]
        unfold World.iterPos
        rw [h5]
        show n - (i + 1) < n - i
        omega
       | false =>
        rw [hd] at HD
        by_cases h45 : R = 45
        ·obtain ⟨k1, k2⟩ := HNX.out (by unfold okN; rw [hl, hd, hzb, h45]; rfl)
         subst k2
         have HK1 := hid k1
         subst h45
         have HL4 : Hid (∀ w : World, Calls Tryz.prog 165 #[.int .i32 45] w fun e w' => e = .returned (.bool false) ∧ w' = w) := HL
         have HD4 : Hid (∀ w : World, Calls Tryz.prog 166 #[.int .i32 45] w fun e w' => e = .returned (.bool false) ∧ w' = w) := HD
         have hnx4 : ∀ ty, (Instr.next (.pointer (some ⟨g, 0, none⟩)) true ty).run Tryz.prog wr = .ok (.tuple #[.bool true, .int .i64 (i : Int), .int .i32 45]) W := hnx
         clear hl hd HNX HNO k1 hzb hz0 HL HD hnx
         go_wp2_with fail
         refine (HL4.out _).mono ?_
         rintro e w3 ⟨rfl, rfl⟩
         go_wp2_with fail
         refine (HD4.out _).mono ?_
         rintro e w4 ⟨rfl, rfl⟩
         go_wp2_with fail
         refine ⟨⟨i + 1, HLT.out, HK1, HIT2, HFW⟩, ?_⟩
         have h5 := HIT2.out
         have h6 := HLT.out
         rw [HPOS.out]
         unfold World.iterPos
         rw [h5]
         show n - (i + 1) < n - i
         omega
        ·have hTf := HNO.out (by unfold okN; rw [hl, hd, hzb]; simpa using h45)
         subst hTf
         have hR45 : ((R : Int) != 45) = true := by rw [bne_iff_ne]; omega
         have hzi : ((i : Int) == 0) = false := by rw [beq_eq_false_iff_ne]; exact hz1
         clear hl hd HNX HNO hzb hz0 h45
         go_wp2_with fail
         refine (HL.out _).mono ?_
         rintro e w3 ⟨rfl, rfl⟩
         go_wp2_with fail
         refine (HD.out _).mono ?_
         rintro e w4 ⟨rfl, rfl⟩
         go_wp2_with fail
         go_ret
         exact ⟨rfl, HFW.out⟩
    ·obtain rfl : i = n := by omega
     have hTt : T = true := by
      rw [← HT.out]
      exact (typ_all (by rw [HNN.out]; exact h1) (by rw [HNN.out]; exact h2)).2 (by rw [HNN.out]; exact HOK.out)
     subst hTt
     have hnx : ∀ ty, (Instr.next (.pointer (some ⟨g, 0, none⟩)) true ty).run Tryz.prog wr = .ok (.tuple #[.bool false]) wr := fun ty => Lib.run_next_end_at wr g S i ty HIT.out (by rw [HZ.out]; omega)
     go_wp2_with fail
     go_ret
     exact ⟨rfl, HFR.out⟩
end Go.Proofs.YtgbiicipkbpmeaaGreatDoor.DN
namespace Go.Proofs.YtgbiicipkbpmeaaGreatDoor.SC
set_option maxRecDepth 100000
set_option maxHeartbeats 128000000
open Go.RowKit K BE DN
theorem slower_any (s : B) (hs : Sz s) (w : World) : Calls Tryz.prog 56 #[.string (sb s)] w fun e w' => e = .returned (.string (sb (low s))) ∧ Fr No w w' := by
 have hz : (sb s).size = s.length := sb_size s
 have hzl : (sb s).data.toList = s := sb_list s
 obtain ⟨S, hS⟩ : ∃ S, sb s = S := ⟨_, rfl⟩
 obtain ⟨n, hn⟩ : ∃ n, s.length = n := ⟨_, rfl⟩
 rw [hS] at hz hzl ⊢
 rw [hn] at hz
 have hni : (n : Int) ≤ 140737488351232 := by unfold Sz at hs; omega
 have HNN := hid hn; have HZL := hid hzl; have HZ := hid hz
 clear hs hz hzl hS hn
 go_enter Tryz.func56, Tryz.ntmps56
 go_wp2_with (first
  | ((with_reducible refine K.atO (.convert _ 150 _) ?_); refine wpL_bytesF rfl _ _ _ _ rfl S rfl Tryz.underlying9 Tryz.underlying150 Tryz.underlying5 ?_; intro cp z w1 hcp HB1 HF1; rw [HZ.out]))
 obtain ⟨g, hg⟩ : ∃ g, w.heap.size = g := ⟨_, rfl⟩
 rw [hg] at HB1 ⊢
 rw [HZL.out] at HB1
 have HG := hid hg
 have HCP := hid hcp
 clear hg hcp
 go_loopw [10] (fun iv wr => ∃ (i : Nat), iv = .int .i64 i ∧ i ≤ n ∧ Hid (BlkF wr g 5 (u8s (low (s.take i) ++ s.drop i) ++ z) ∧ Fr No w wr)) (fun iv _ => n - (intOf iv).toNat)
 case atStart => exact ⟨0, rfl, Nat.zero_le _, hid ⟨by simpa [low] using HB1.out, HF1.out⟩⟩
 case round =>
  obtain ⟨i, rfl, hi, HI⟩ := hrel
  by_cases hlt : i < n
  ·have hlti : (i : Int) < n := by omega
   have hi0 : (0 : Int) ≤ i := by omega
   obtain ⟨c, hc⟩ : ∃ c, s[i]? = some c := ⟨_, List.getElem?_eq_getElem (by rw [HNN.out]; exact hlt)⟩
   have hlow : (low (s.take i)).length = i := by rw [low_length, List.length_take, HNN.out]; omega
   have hcur : (u8s (low (s.take i) ++ s.drop i) ++ z)[i]? = some (.int .u8 (c.toNat : Int)) := by
    rw [List.getElem?_append_left (by rw [u8s_length, List.length_append, hlow, List.length_drop, HNN.out]; omega)]
    unfold u8s
    rw [List.getElem?_map, List.getElem?_append_right (by omega), hlow, Nat.sub_self, List.getElem?_drop, Nat.add_zero, hc]
    rfl
   have hcell : wr.cell? ⟨g, i, none⟩ = some (.int .u8 (c.toNat : Int)) := by rw [HI.out.1.cell]; exact hcur
   have hsplit : s.drop i = c :: s.drop (i + 1) := by
    have hl : i < s.length := by rw [HNN.out]; exact hlt
    rw [List.drop_eq_getElem_cons hl]
    rw [List.getElem?_eq_getElem hl] at hc
    rw [Option.some.inj hc]
   have htake : low (s.take (i + 1)) = low (s.take i) ++ [lo c] := by
    unfold low
    rw [List.take_add_one, hc]
    simp
   have hset : (u8s (low (s.take i) ++ s.drop i) ++ z).set i (.int .u8 ((lo c).toNat : Int)) = u8s (low (s.take (i + 1)) ++ s.drop (i + 1)) ++ z := by
    rw [htake, hsplit, u8s_append, List.append_assoc, List.set_append_right _ _ (by rw [u8s_length, hlow]; exact Nat.le_refl _), u8s_length, hlow, Nat.sub_self]
    simp [u8s]
   have hlen : i < (u8s (low (s.take i) ++ s.drop i) ++ z).length := (List.getElem?_eq_some_iff.1 hcur).1
   have HSET := hid hset; have HLEN := hid hlen
   have hlo := lo_nat c
   obtain ⟨xn, hxn⟩ : ∃ xn, c.toNat = xn := ⟨_, rfl⟩
   have hb := lt256 c
   rw [hxn] at hcell hlo hb
   have HLT := hid hlt
   have HFS : Hid (∀ w', Fr (fun k => k = g) wr w' → Fr No w w') := hid (fun w' h => HI.out.2.trans h (fun k e => .inr (by rw [HG.out]; have e : k = g := e; omega)))
   clear hcur hsplit htake hset hlen hc hlow hi hlt
   by_cases hup : 65 ≤ xn ∧ xn ≤ 90
   ·rw [if_pos hup] at hlo
    have h1 : (65 : Int) ≤ xn := by omega
    have h2 : (xn : Int) ≤ 90 := by omega
    have HLO := hid hlo
    clear hup hlo hxn
    go_wp2_with (first
     | ((with_reducible refine K.atO (.store 5 _ _) ?_); refine wpL_setF rfl _ _ _ rfl g i (.int .u8 ((lo c).toNat : Int)) (by go_simp) (by rw [HLO.out]; exact congrArg (Value.int .u8) (by omega)) rfl rfl 5 _ HI.out.1 HLEN.out infoU8 ?_; intro w2 HB2 HF2))
    refine ⟨⟨i + 1, by go_num, HLT.out, hid ⟨by rw [← HSET.out]; exact HB2.out, HFS.out w2 HF2.out⟩⟩, ?_⟩
    have := HLT.out
    simp [intOf]; omega
   ·rw [if_neg hup] at hlo
    have h1 : (xn : Int) < 65 ∨ (65 ≤ (xn : Int) ∧ ¬ (xn : Int) ≤ 90) := by omega
    have HSAME : Hid (BlkF wr g 5 (u8s (low (s.take (i + 1)) ++ s.drop (i + 1)) ++ z)) := hid (by
     rw [← HSET.out, hlo, ← hxn]
     have h := HI.out.1
     have hce := h.cell i
     rw [hxn] at *
     rw [hcell] at hce
     obtain ⟨hl, e⟩ := List.getElem?_eq_some_iff.1 hce.symm
     rw [← e, List.set_getElem_self]
     exact h)
    clear hup hlo hxn
    rcases h1 with h1 | ⟨h1, h2⟩
    all_goals
     go_wp2_with fail
     refine ⟨⟨i + 1, by go_num, HLT.out, hid ⟨HSAME.out, HI.out.2⟩⟩, ?_⟩
     have := HLT.out
     simp [intOf]; omega
  ·obtain rfl : i = n := by omega
   have hB := HI.out.1
   rw [← HNN.out, List.take_length, List.drop_length, List.append_nil] at hB
   have hbi : BytesIn wr (fun _ => True) (.slice (some ⟨g, 0, none⟩) i cp) (low s) := by
    refine ⟨_, _, _, rfl, by rw [low_length]; exact HNN.out, (by have := HCP.out; rw [HZ.out] at this; exact this), .inr ⟨g, 0, rfl, trivial, hB.lt, ?_⟩⟩
    intro j v hj
    rw [Nat.zero_add, hB.cell, List.getElem?_append_left (List.getElem?_eq_some_iff.1 hj).1]
    exact hj
   have HBI := hid hbi
   clear hB hbi hi hlt
   go_wp2_with (first
    | ((with_reducible refine K.atO (.convert _ 9 _) ?_); refine wpL_stringOf rfl _ _ _ _ rfl _ _ (low s) rfl HBI.out Tryz.underlying150 Tryz.underlying5 Tryz.underlying9 ?_))
   go_ret
   exact ⟨rfl, HI.out.2⟩
theorem typeName_any (t : B) (r : List Value) (hr : r.length = 5) (w : World) : Calls Tryz.prog 78 #[.agg (Value.string (sb t) :: r).toArray] w fun e w' => e = .returned (.string (sb t)) ∧ Fr No w w' := by
 obtain ⟨r1, r2, r3, r4, r5, rfl⟩ : ∃ r1 r2 r3 r4 r5, r = [r1, r2, r3, r4, r5] := by
  match r, hr with
  | [r1, r2, r3, r4, r5], _ => exact ⟨r1, r2, r3, r4, r5, rfl⟩
 go_enter Tryz.func78, Tryz.ntmps78
 go_wp2_with (first
  | ((with_reducible refine K.atO (.box 53 _) ?_); refine wpL_box rfl _ _ rfl _ rfl [.string (sb t), r1, r2, r3, r4, r5] rfl ?_; intro w1 HB1 HF1 HS1; refine Hid.out ?_))
 obtain ⟨g, hg⟩ : ∃ g, w.heap.size = g := ⟨_, rfl⟩
 rw [hg] at HB1 ⊢
 have c0 : w1.cell? ⟨g, 0, none⟩ = some (.string (sb t)) := HB1.out.cell 0
 refine hid ?_
 go_wp2_with fail
 go_ret
 exact ⟨rfl, HF1.out⟩
theorem className_any (t : B) (r : List Value) (hr : r.length = 4) (w : World) : Calls Tryz.prog 82 #[.agg (Value.string (sb t) :: r).toArray] w fun e w' => e = .returned (.string (sb t)) ∧ Fr No w w' := by
 obtain ⟨r1, r2, r3, r4, rfl⟩ : ∃ r1 r2 r3 r4, r = [r1, r2, r3, r4] := by
  match r, hr with
  | [r1, r2, r3, r4], _ => exact ⟨r1, r2, r3, r4, rfl⟩
 go_enter Tryz.func82, Tryz.ntmps82
 go_wp2_with (first
  | ((with_reducible refine K.atO (.box 55 _) ?_); refine wpL_box rfl _ _ rfl _ rfl [.string (sb t), r1, r2, r3, r4] rfl ?_; intro w1 HB1 HF1 HS1; refine Hid.out ?_))
 obtain ⟨g, hg⟩ : ∃ g, w.heap.size = g := ⟨_, rfl⟩
 rw [hg] at HB1 ⊢
 have c0 : w1.cell? ⟨g, 0, none⟩ = some (.string (sb t)) := HB1.out.cell 0
 refine hid ?_
 go_wp2_with fail
 go_ret
 exact ⟨rfl, HF1.out⟩
theorem low_dec' (p q : B) : decide (low p = low q) = (low p == low q) := by
 rw [Bool.eq_iff_iff]
 simp
theorem findTy1_any (n key : B) (r : List Value) (hr : r.length = 5) (b1 b2 : Nat) (w : World) (h1 : Blk w b1 139 [.func (.func 78) #[] #[]]) (h2 : Blk w b2 9 [.string (sb (low key))]) (hn : Sz n) :
  Calls Tryz.prog 129 #[.agg (Value.string (sb n) :: r).toArray, .pointer (some ⟨b1, 0, none⟩), .pointer (some ⟨b2, 0, none⟩)] w fun e w' => e = .returned (.bool (low n == low key)) ∧ Fr No w w' := by
 rw [← low_dec']
 have H1 := hid h1; have H2 := hid h2; have HN := hid hn
 have HI3 : Hid ((Tryz.prog.info? 53).map (·.size) = some (Value.string (sb n) :: r).length) := hid (by rw [List.length_cons, hr]; exact infoTy)
 have HR := hid hr
 clear h1 h2 hn hr
 go_enter Tryz.func129, Tryz.ntmps129
 go_wp2_with (first
  | ((with_reducible refine K.atO (.box 53 _) ?_); refine wpL_box rfl _ _ rfl _ rfl (Value.string (sb n) :: r) rfl ?_; intro w1 HB1 HF1 HS1))
 obtain ⟨g, hg⟩ : ∃ g, w.heap.size = g := ⟨_, rfl⟩
 rw [hg] at HB1 ⊢
 have HG : Hid (∀ k, k < w.heap.size → k ≠ g) := hid (fun k hk => by omega)
 clear hg
 have c1 : w1.cell? ⟨b1, 0, none⟩ = some (.func (.func 78) #[] #[]) := (H1.out.fr HF1.out id).cell 0
 have c2 : w1.cell? ⟨b2, 0, none⟩ = some (.string (sb (low key))) := (H2.out.fr HF1.out id).cell 0
 have c3 : w1.rangeAt g 0 (Value.string (sb n) :: r) := HB1.out.range 0 _ (by rw [List.drop_zero, List.take_length])
 have hold : Facts.hold [(0, fun w' => w'.cell? ⟨b1, 0, none⟩ = some (.func (.func 78) #[] #[])), (1, fun w' => w'.rangeAt g 0 (Value.string (sb n) :: r)), (4, fun w' => w'.cell? ⟨b2, 0, none⟩ = some (.string (sb (low key))))] w1.drew := Facts.cons_hold c1 (Facts.cons_hold c3 (Facts.cons_hold c2 (Facts.nil_hold _)))
 refine wpD_region hold (by kernel_rfl) 7 rfl ?_
 (refine K.tk 0 _ rfl K.m0 (v := ?_) ?_ ?_; rotate_left; (intro _ _hw; go_simp; try with_reducible rfl); simp only [K.pu])
 (refine K.tk 1 _ rfl K.m1 (exec_load _ _ rfl g 0 rfl _ _ rfl rfl HI3.out) ?_; simp only [K.pu])
 (refine K.tk 4 _ rfl K.m2 (v := ?_) ?_ ?_; rotate_left; (intro _ _hw; go_simp; try with_reducible rfl); simp only [K.pu])
 clear hold
 refine K.on 2 [(4, fun w' => w'.cell? ⟨b2, 0, none⟩ = some (.string (sb (low key))))] rfl (fun K2 hK2 => ?_)
 refine wp_call _ [_] _ rfl 78 [] rfl (fun vs w => by kernel_rfl) [.agg (Value.string (sb n) :: r).toArray] (by rfl) ?_
 refine (typeName_any n r HR.out w1.drew).mono ?_
 rintro e w2 ⟨rfl, f2⟩
 have c22 : w2.cell? ⟨b2, 0, none⟩ = some (.string (sb (low key))) := f2.cell (show w1.drew.cell? _ = _ from c2) id
 have HF2 := hid (HF1.out.trans' ((Fr.refl No w1).drew.trans' f2))
 refine ⟨_, rfl, hK2 _ _ (Facts.cons_hold c22 (Facts.nil_hold _)) ?_⟩
 clear hK2 K2 f2
 simp only [K.pu]
 refine K.on 3 [(4, fun w' => w'.cell? ⟨b2, 0, none⟩ = some (.string (sb (low key))))] rfl (fun K3 hK3 => ?_)
 refine wp_call _ _ _ rfl 56 [] rfl (fun vs w => by kernel_rfl) [.string (sb n)] (by rfl) ?_
 refine (slower_any n HN.out w2).mono ?_
 rintro e w3 ⟨rfl, f3⟩
 have c23 : w3.cell? ⟨b2, 0, none⟩ = some (.string (sb (low key))) := f3.cell c22 id
 have HF3 := hid (HF2.out.trans' f3)
 refine ⟨_, rfl, hK3 _ _ (Facts.cons_hold c23 (Facts.nil_hold _)) ?_⟩
 clear hK3 K3 f3
 simp only [K.pu]
 have hold : Facts.hold [(4, fun w' => w'.cell? ⟨b2, 0, none⟩ = some (.string (sb (low key))))] w3 := Facts.cons_hold c23 (Facts.nil_hold _)
 (refine K.pl 5 (v := (.bool (decide (low n = low key)))) rfl ?_ ?_; (intro _w; exact exec_eqS _ _ _ rfl _ _ rfl rfl _w); simp only [K.pu])
 (refine K.pl 6 (v := ?_) rfl ?_ ?_; rotate_left; (intro; go_simp; try with_reducible rfl); simp only [K.pu])
 clear hold
 refine wpD_done (by kernel_rfl) ?_ _
 go_wp2_with fail
 go_ret
 exact ⟨rfl, HF3.out⟩
theorem findTy_any {S : Nat → Prop} (s : B) (v : Value) (X : List Ty) (w : World) (h : TysIn S w v X) (hs : Sz s) :
  Calls Tryz.prog 80 #[.string (sb s), v, .func (.func 78) #[] #[]] w fun e w' => e = .returned (.int .i64 (idxI X fun x => low x.nm == low s)) ∧ Fr No w w' := by
 have HX := hid h; have HS := hid hs
 obtain ⟨a, c, rfl, hcap, hl⟩ := h.form
 obtain ⟨R, hR⟩ : ∃ R, idxI X (fun x => low x.nm == low s) = R := ⟨_, rfl⟩
 rw [hR]
 have HR := hid hR
 obtain ⟨n, hn⟩ : ∃ n, X.length = n := ⟨_, rfl⟩
 rw [hn] at HX ⊢
 clear h hs hR hn hcap hl
 go_enter Tryz.func80, Tryz.ntmps80
 go_wp2_with (first
  | ((with_reducible refine K.atO (.box 139 _) ?_); refine wpL_box rfl _ _ rfl _ rfl [.func (.func 78) #[] #[]] rfl ?_; intro w1 HB1 HF1 HS1)
  | (go_at_call 56; refine (slower_any s HS.out _).mono ?_; rintro e w2 ⟨rfl, f2⟩; have HF2 := hid f2; clear f2)
  | ((with_reducible refine K.atO (.alloc 9) ?_); refine wpL_alloc rfl _ rfl _ zeroS [.string ⟨#[]⟩] rfl ?_; intro w3 HB3 HF3 HS3)
  | ((with_reducible refine K.atO (.store 9 _ _) ?_); refine wpL_setV rfl _ _ _ rfl _ 0 (.string (sb (low s))) rfl rfl rfl rfl _ _ HB3.out (by decide) infoS ?_; intro w4 HB4 HF4 HS4; refine Hid.out ?_))
 have hF := ((HF1.out.trans' HF2.out).trans' HF3.out)
 have hF4 : Fr No w w4 := hF.trans HF4.out (fun k e => .inr (by rw [e]; have := hF.size; have := HF2.out.size; have := HF1.out.size; have := HS1.out; omega))
 have hb1 : Blk w4 w.heap.size 139 [.func (.func 78) #[] #[]] := ((HB1.out.fr HF2.out id).fr HF3.out id).fr HF4.out (by show ¬ w.heap.size = w2.heap.size; have := HF2.out.size; have := HS1.out; omega)
 have hb2 : Blk w4 w2.heap.size 9 [.string (sb (low s))] := HB4.out
 obtain ⟨g1, hg1⟩ : ∃ g, w.heap.size = g := ⟨_, rfl⟩
 obtain ⟨g2, hg2⟩ : ∃ g, w2.heap.size = g := ⟨_, rfl⟩
 rw [hg1] at hb1 ⊢
 rw [hg2] at hb2 ⊢
 have H := hid (indexTy 129 [.pointer (some ⟨g1, 0, none⟩), .pointer (some ⟨g2, 0, none⟩)] (fun x : Ty => low x.nm == low s) (fun w x c => (fun _ _ => TyC) S w x c) No (fun w' => Fr No w4 w') S _ X w4 (fun w w' x c h hf => h) (fun _ _ _ e => e) (Fr.refl _ _) (HX.out.fr hF4 (fun _ _ _ e => e)) (fun vs w => by kernel_rfl)
  (fun x _ c wv hp hi hf => by
   obtain ⟨r, rfl, hr, hsz⟩ := (show ∃ r, c = Value.string (sb x.nm) :: r ∧ r.length = 5 ∧ Sz x.nm from ⟨_, hp.1, rfl, hp.2⟩)
   exact (findTy1_any x.nm s r hr g1 g2 wv (hb1.fr hf id) (hb2.fr hf id) hsz).mono fun e w' ⟨h1, h2⟩ => ⟨h1, hi.trans' h2, h2⟩))
 rw [HR.out] at H
 have HF4' := hid hF4
 clear hF hF4 hb1 hb2 hg1 hg2
 refine hid ?_
 go_wp2_with fail
 refine H.out.mono ?_
 rintro e w5 ⟨rfl, -, f5⟩
 have HF5 := hid f5
 clear f5
 go_wp2_with fail
 go_ret
 exact ⟨rfl, HF4'.out.trans' HF5.out⟩
theorem findCl1_any (n key : B) (r : List Value) (hr : r.length = 4) (b1 b2 : Nat) (w : World) (h1 : Blk w b1 143 [.func (.func 82) #[] #[]]) (h2 : Blk w b2 9 [.string (sb (low key))]) (hn : Sz n) :
  Calls Tryz.prog 168 #[.agg (Value.string (sb n) :: r).toArray, .pointer (some ⟨b1, 0, none⟩), .pointer (some ⟨b2, 0, none⟩)] w fun e w' => e = .returned (.bool (low n == low key)) ∧ Fr No w w' := by
 rw [← low_dec']
 have H1 := hid h1; have H2 := hid h2; have HN := hid hn
 have HI3 : Hid ((Tryz.prog.info? 55).map (·.size) = some (Value.string (sb n) :: r).length) := hid (by rw [List.length_cons, hr]; exact infoCl)
 have HR := hid hr
 clear h1 h2 hn hr
 go_enter Tryz.func168, Tryz.ntmps168
 go_wp2_with (first
  | ((with_reducible refine K.atO (.box 55 _) ?_); refine wpL_box rfl _ _ rfl _ rfl (Value.string (sb n) :: r) rfl ?_; intro w1 HB1 HF1 HS1))
 obtain ⟨g, hg⟩ : ∃ g, w.heap.size = g := ⟨_, rfl⟩
 rw [hg] at HB1 ⊢
 have HG : Hid (∀ k, k < w.heap.size → k ≠ g) := hid (fun k hk => by omega)
 clear hg
 have c1 : w1.cell? ⟨b1, 0, none⟩ = some (.func (.func 82) #[] #[]) := (H1.out.fr HF1.out id).cell 0
 have c2 : w1.cell? ⟨b2, 0, none⟩ = some (.string (sb (low key))) := (H2.out.fr HF1.out id).cell 0
 have c3 : w1.rangeAt g 0 (Value.string (sb n) :: r) := HB1.out.range 0 _ (by rw [List.drop_zero, List.take_length])
 have hold : Facts.hold [(0, fun w' => w'.cell? ⟨b1, 0, none⟩ = some (.func (.func 82) #[] #[])), (1, fun w' => w'.rangeAt g 0 (Value.string (sb n) :: r)), (4, fun w' => w'.cell? ⟨b2, 0, none⟩ = some (.string (sb (low key))))] w1.drew := Facts.cons_hold c1 (Facts.cons_hold c3 (Facts.cons_hold c2 (Facts.nil_hold _)))
 refine wpD_region hold (by kernel_rfl) 7 rfl ?_
 (refine K.tk 0 _ rfl K.m0 (v := ?_) ?_ ?_; rotate_left; (intro _ _hw; go_simp; try with_reducible rfl); simp only [K.pu])
 (refine K.tk 1 _ rfl K.m1 (exec_load _ _ rfl g 0 rfl _ _ rfl rfl HI3.out) ?_; simp only [K.pu])
 (refine K.tk 4 _ rfl K.m2 (v := ?_) ?_ ?_; rotate_left; (intro _ _hw; go_simp; try with_reducible rfl); simp only [K.pu])
 clear hold
 refine K.on 2 [(4, fun w' => w'.cell? ⟨b2, 0, none⟩ = some (.string (sb (low key))))] rfl (fun K2 hK2 => ?_)
 refine wp_call _ [_] _ rfl 82 [] rfl (fun vs w => by kernel_rfl) [.agg (Value.string (sb n) :: r).toArray] (by rfl) ?_
 refine (className_any n r HR.out w1.drew).mono ?_
 rintro e w2 ⟨rfl, f2⟩
 have c22 : w2.cell? ⟨b2, 0, none⟩ = some (.string (sb (low key))) := f2.cell (show w1.drew.cell? _ = _ from c2) id
 have HF2 := hid (HF1.out.trans' ((Fr.refl No w1).drew.trans' f2))
 refine ⟨_, rfl, hK2 _ _ (Facts.cons_hold c22 (Facts.nil_hold _)) ?_⟩
 clear hK2 K2 f2
 simp only [K.pu]
 refine K.on 3 [(4, fun w' => w'.cell? ⟨b2, 0, none⟩ = some (.string (sb (low key))))] rfl (fun K3 hK3 => ?_)
 refine wp_call _ _ _ rfl 56 [] rfl (fun vs w => by kernel_rfl) [.string (sb n)] (by rfl) ?_
 refine (slower_any n HN.out w2).mono ?_
 rintro e w3 ⟨rfl, f3⟩
 have c23 : w3.cell? ⟨b2, 0, none⟩ = some (.string (sb (low key))) := f3.cell c22 id
 have HF3 := hid (HF2.out.trans' f3)
 refine ⟨_, rfl, hK3 _ _ (Facts.cons_hold c23 (Facts.nil_hold _)) ?_⟩
 clear hK3 K3 f3
 simp only [K.pu]
 have hold : Facts.hold [(4, fun w' => w'.cell? ⟨b2, 0, none⟩ = some (.string (sb (low key))))] w3 := Facts.cons_hold c23 (Facts.nil_hold _)
 (refine K.pl 5 (v := (.bool (decide (low n = low key)))) rfl ?_ ?_; (intro _w; exact exec_eqS _ _ _ rfl _ _ rfl rfl _w); simp only [K.pu])
 (refine K.pl 6 (v := ?_) rfl ?_ ?_; rotate_left; (intro; go_simp; try with_reducible rfl); simp only [K.pu])
 clear hold
 refine wpD_done (by kernel_rfl) ?_ _
 go_wp2_with fail
 go_ret
 exact ⟨rfl, HF3.out⟩
theorem findCl_any {S : Nat → Prop} (s : B) (v : Value) (X : List Cl) (w : World) (h : ClsIn S w v X) (hs : Sz s) :
  Calls Tryz.prog 130 #[.string (sb s), v, .func (.func 82) #[] #[]] w fun e w' => e = .returned (.int .i64 (idxI X fun x => low x.nm == low s)) ∧ Fr No w w' := by
 have HX := hid h; have HS := hid hs
 obtain ⟨a, c, rfl, hcap, hl⟩ := h.form
 obtain ⟨R, hR⟩ : ∃ R, idxI X (fun x => low x.nm == low s) = R := ⟨_, rfl⟩
 rw [hR]
 have HR := hid hR
 obtain ⟨n, hn⟩ : ∃ n, X.length = n := ⟨_, rfl⟩
 rw [hn] at HX ⊢
 clear h hs hR hn hcap hl
 go_enter Tryz.func130, Tryz.ntmps130
 go_wp2_with (first
  | ((with_reducible refine K.atO (.box 143 _) ?_); refine wpL_box rfl _ _ rfl _ rfl [.func (.func 82) #[] #[]] rfl ?_; intro w1 HB1 HF1 HS1)
  | (go_at_call 56; refine (slower_any s HS.out _).mono ?_; rintro e w2 ⟨rfl, f2⟩; have HF2 := hid f2; clear f2)
  | ((with_reducible refine K.atO (.alloc 9) ?_); refine wpL_alloc rfl _ rfl _ zeroS [.string ⟨#[]⟩] rfl ?_; intro w3 HB3 HF3 HS3)
  | ((with_reducible refine K.atO (.store 9 _ _) ?_); refine wpL_setV rfl _ _ _ rfl _ 0 (.string (sb (low s))) rfl rfl rfl rfl _ _ HB3.out (by decide) infoS ?_; intro w4 HB4 HF4 HS4; refine Hid.out ?_))
 have hF := ((HF1.out.trans' HF2.out).trans' HF3.out)
 have hF4 : Fr No w w4 := hF.trans HF4.out (fun k e => .inr (by rw [e]; have := hF.size; have := HF2.out.size; have := HF1.out.size; have := HS1.out; omega))
 have hb1 : Blk w4 w.heap.size 143 [.func (.func 82) #[] #[]] := ((HB1.out.fr HF2.out id).fr HF3.out id).fr HF4.out (by show ¬ w.heap.size = w2.heap.size; have := HF2.out.size; have := HS1.out; omega)
 have hb2 : Blk w4 w2.heap.size 9 [.string (sb (low s))] := HB4.out
 obtain ⟨g1, hg1⟩ : ∃ g, w.heap.size = g := ⟨_, rfl⟩
 obtain ⟨g2, hg2⟩ : ∃ g, w2.heap.size = g := ⟨_, rfl⟩
 rw [hg1] at hb1 ⊢
 rw [hg2] at hb2 ⊢
 have H := hid (indexCl 168 [.pointer (some ⟨g1, 0, none⟩), .pointer (some ⟨g2, 0, none⟩)] (fun x : Cl => low x.nm == low s) (fun w x c => ClC S w x c) No (fun w' => Fr No w4 w') S _ X w4 (fun w w' x c h hf => h.fr hf (fun _ _ _ e => e)) (fun _ _ _ e => e) (Fr.refl _ _) (HX.out.fr hF4 (fun _ _ _ e => e)) (fun vs w => by kernel_rfl)
  (fun x _ c wv hp hi hf => by
   obtain ⟨r, rfl, hr, hsz⟩ := (show ∃ r, c = Value.string (sb x.nm) :: r ∧ r.length = 4 ∧ Sz x.nm from by obtain ⟨v1, v2, e, h1, -⟩ := hp; exact ⟨_, e, rfl, h1⟩)
   exact (findCl1_any x.nm s r hr g1 g2 wv (hb1.fr hf id) (hb2.fr hf id) hsz).mono fun e w' ⟨h1, h2⟩ => ⟨h1, hi.trans' h2, h2⟩))
 rw [HR.out] at H
 have HF4' := hid hF4
 clear hF hF4 hb1 hb2 hg1 hg2
 refine hid ?_
 go_wp2_with fail
 refine H.out.mono ?_
 rintro e w5 ⟨rfl, -, f5⟩
 have HF5 := hid f5
 clear f5
 go_wp2_with fail
 go_ret
 exact ⟨rfl, HF4'.out.trans' HF5.out⟩
theorem ty_eq (x y : Ty) : decide (x = y) = (decide (x.nm = y.nm) && (decide (x.syn = y.syn) && (decide (x.one = y.one) && (decide (x.shut = y.shut) && (decide (x.sys = y.sys) && decide (x.share = y.share)))))) := by
 rw [Bool.eq_iff_iff]
 cases x; cases y
 simp
theorem eqIn_ty (p q : Ty) (w : World) : (Op.equalIn 10000 53 (.agg (tyV p).toArray) (.agg (tyV q).toArray)).run Tryz.prog w = .ok (decide (p = q)) w := by
 rw [show (10000 : Nat) = 9999 + 1 from rfl, run_equalIn_struct w 9999 53 _ _ (by kernel_rfl) (by kernel_rfl)]
 have hf : Tryz.prog.fieldsOf 53 = match Tryz.prog.underlying 53 with | some (.struct fs) => fs | _ => #[] := rfl
 rw [hf, Tryz.underlying53]
 have e1 := run_equalIn_string (P := Tryz.prog) w 9998 9 (sb p.nm) (sb q.nm) Tryz.underlying9
 rw [neq_sb p.nm q.nm] at e1
 have i0 := fun (a b : Int) => run_equalIn_int (P := Tryz.prog) w 9998 3 .i64 .i64 a b Tryz.underlying3
 have b0 := fun (a b : Bool) => run_equalIn_bool (P := Tryz.prog) w 9998 4 a b Tryz.underlying4
 have c1 : Tryz.prog.cellsOf 9 = 1 := by kernel_rfl
 rw [ty_eq]
 unfold tyV
 simp [Op.eqFields, part, isAgg, run_underlying Tryz.underlying9, run_underlying Tryz.underlying3, run_underlying Tryz.underlying4, e1, i0, b0]
 obtain ⟨n, k, a, b, c, d⟩ := p
 obtain ⟨n', k', a', b', c', d'⟩ := q
 simp only
 by_cases h1 : n = n' <;> by_cases h2 : k = k' <;> simp [h1, h2]
 by_cases h3 : a = a' <;> by_cases h4 : b = b' <;> by_cases h5 : c = c' <;> by_cases h6 : d = d' <;> simp [h3, h4, h5, h6]
theorem exec_eqTy {op : Oper} {a : Act} (x y : Operand) (t2 : TypeId) (ho : op.op = .binOp .eql 53 x y t2) (p q : Ty) (r : Bool) (hr : decide (p = q) = r) (hx : a.eval x = .agg (tyV p).toArray) (hy : a.eval y = .agg (tyV q).toArray) (w : World) : (execOp a.eval op).run Tryz.prog w = .ok (.value (.bool r)) w := by
 have h : (binOp .eql 53 (.agg (tyV p).toArray) (.agg (tyV q).toArray)).run Tryz.prog w = .ok (.bool (decide (p = q))) w := by
  rw [run_eql_struct, eqIn_ty p q w]
  rfl
 have hg : (eqGuard .eql 53 x y (.agg (tyV p).toArray) (.agg (tyV q).toArray)).run Tryz.prog w = .ok () w := by kernel_rfl
 unfold execOp
 simp only [ho, hx, hy, Sem.run_bind, hg, h, Result.andThen_ok, hr, Sem.run_pure]
theorem idx_lt {α : Type} (f : α → B) (X : List α) (s : B) : decide (idxI X (fun x => low (f x) == low s) < 0) = (fnd (X.map f) s).isNone := by
 unfold idxI fnd
 rw [List.findIdx?_map]
 show _ = (X.findIdx? fun x => low (f x) == low s).isNone
 cases X.findIdx? fun x => low (f x) == low s with
 | none => rfl
 | some i => simp
theorem idx_some {α : Type} (f : α → B) {X : List α} {s : B} {i : Nat} (h : fnd (X.map f) s = some i) : idxI X (fun x => low (f x) == low s) = i := by
 unfold idxI
 unfold fnd at h
 rw [List.findIdx?_map] at h
 have h' : (X.findIdx? fun x => low (f x) == low s) = some i := h
 rw [h']
theorem idx_no {α : Type} (f : α → B) {X : List α} {s : B} (h : fnd (X.map f) s = none) : idxI X (fun x => low (f x) == low s) = -1 := by
 unfold idxI
 unfold fnd at h
 rw [List.findIdx?_map] at h
 have h' : (X.findIdx? fun x => low (f x) == low s) = none := h
 rw [h']
theorem isNewTy_any {S : Nat → Prop} (s : B) (v : Value) (X : List Ty) (w : World) (h : TysIn S w v X) (hs : Sz s) :
  Calls Tryz.prog 77 #[.string (sb s), v, .func (.func 78) #[] #[]] w fun e w' => e = .returned (.bool (newN (X.map (·.nm)) s)) ∧ Fr No w w' := by
 have HX := hid h; have HS := hid hs
 obtain ⟨a, c, rfl, hcap, hl⟩ := h.form
 obtain ⟨R, hR⟩ : ∃ R, newN (X.map (·.nm)) s = R := ⟨_, rfl⟩
 rw [hR]
 have HR : Hid ((typ s && (fnd (X.map (·.nm)) s).isNone) = R) := hid hR
 have HI : Hid (decide (idxI X (fun x => low x.nm == low s) < 0) = (fnd (X.map (·.nm)) s).isNone) := hid (idx_lt (·.nm) X s)
 have HF := hid (fun w' hf => findTy_any s (.slice a X.length c) X w' (TysIn.fr (D := No) HX.out hf (fun _ _ _ e => e)) HS.out)
 obtain ⟨m, hm⟩ : ∃ m, idxI X (fun x => low x.nm == low s) = m := ⟨_, rfl⟩
 rw [hm] at HI HF
 obtain ⟨n, hn⟩ : ∃ n, X.length = n := ⟨_, rfl⟩
 rw [hn] at HF ⊢
 clear h hs hR hm hn hcap hl HX
 go_enter Tryz.func77, Tryz.ntmps77
 go_wp2_with fail
 refine (type_any s w).mono ?_
 rintro e w1 ⟨rfl, f1⟩
 have HF1 := hid f1
 clear f1
 cases ht : typ s with
 | false =>
  obtain rfl : R = false := by have h := HR.out; rw [ht] at h; exact h.symm
  clear ht
  go_wp2_with fail
  go_ret
  exact ⟨rfl, HF1.out⟩
 | true =>
  have HR2 : Hid (decide (m < 0) = R) := hid (by have h := HR.out; rw [ht, ← HI.out] at h; exact h)
  clear ht
  go_wp2_with fail
  refine (HF.out _ HF1.out).mono ?_
  rintro e w2 ⟨rfl, f2⟩
  have HF2 := hid (HF1.out.trans' f2)
  clear f2
  go_wp2_with fail
  go_ret
  exact ⟨by rw [← HR2.out]; rfl, HF2.out⟩
theorem isNewCl_any {S : Nat → Prop} (s : B) (v : Value) (X : List Cl) (w : World) (h : ClsIn S w v X) (hs : Sz s) :
  Calls Tryz.prog 81 #[.string (sb s), v, .func (.func 82) #[] #[]] w fun e w' => e = .returned (.bool (newN (X.map (·.nm)) s)) ∧ Fr No w w' := by
 have HX := hid h; have HS := hid hs
 obtain ⟨a, c, rfl, hcap, hl⟩ := h.form
 obtain ⟨R, hR⟩ : ∃ R, newN (X.map (·.nm)) s = R := ⟨_, rfl⟩
 rw [hR]
 have HR : Hid ((typ s && (fnd (X.map (·.nm)) s).isNone) = R) := hid hR
 have HI : Hid (decide (idxI X (fun x => low x.nm == low s) < 0) = (fnd (X.map (·.nm)) s).isNone) := hid (idx_lt (·.nm) X s)
 have HF := hid (fun w' hf => findCl_any s (.slice a X.length c) X w' (ClsIn.fr (D := No) HX.out hf (fun _ _ _ e => e)) HS.out)
 obtain ⟨m, hm⟩ : ∃ m, idxI X (fun x => low x.nm == low s) = m := ⟨_, rfl⟩
 rw [hm] at HI HF
 obtain ⟨n, hn⟩ : ∃ n, X.length = n := ⟨_, rfl⟩
 rw [hn] at HF ⊢
 clear h hs hR hm hn hcap hl HX
 go_enter Tryz.func81, Tryz.ntmps81
 go_wp2_with fail
 refine (type_any s w).mono ?_
 rintro e w1 ⟨rfl, f1⟩
 have HF1 := hid f1
 clear f1
 cases ht : typ s with
 | false =>
  obtain rfl : R = false := by have h := HR.out; rw [ht] at h; exact h.symm
  clear ht
  go_wp2_with fail
  go_ret
  exact ⟨rfl, HF1.out⟩
 | true =>
  have HR2 : Hid (decide (m < 0) = R) := hid (by have h := HR.out; rw [ht, ← HI.out] at h; exact h)
  clear ht
  go_wp2_with fail
  refine (HF.out _ HF1.out).mono ?_
  rintro e w2 ⟨rfl, f2⟩
  have HF2 := hid (HF1.out.trans' f2)
  clear f2
  go_wp2_with fail
  go_ret
  exact ⟨by rw [← HR2.out]; rfl, HF2.out⟩
theorem build_ty (n : B) (w : World) : (Instr.build 53 #[(0, .string (sb n)), (1, .int .i64 1)]).run Tryz.prog w = .ok (.agg (tyV ⟨n, 1, false, false, false, false⟩).toArray) w := by kernel_rfl
theorem exec_buildTy {op : Oper} {a : Act} (x : Operand) (ho : op.op = .build 53 #[(0, x), (1, .const (.int .i64 1))]) (n : B) (hx : a.eval x = .string (sb n)) (w : World) : (execOp a.eval op).run Tryz.prog w = .ok (.value (.agg (tyV ⟨n, 1, false, false, false, false⟩).toArray)) w := by
 have h := build_ty n w
 have h1 : a.eval (.const (.int .i64 1)) = .int .i64 1 := rfl
 simp [execOp, ho, hx, h1, h, Result.andThen]
theorem rFirst_eq (t : Ty) : rFirst t = (decide (low t.nm = oc) && decide (t = ⟨t.nm, 1, false, false, false, false⟩)) := by
 unfold rFirst
 rw [ty_eq]
 obtain ⟨n, k, a, b, c, d⟩ := t
 congr 1
 simp only [decide_true, Bool.true_and]
 have e : (k == 1) = decide (k = 1) := by rw [Bool.eq_iff_iff]; simp
 rw [e]
 cases a <;> cases b <;> cases c <;> cases d <;> simp
theorem isRightFirst_any (t : Ty) (hz : Sz t.nm) (w : World) : Calls Tryz.prog 42 #[.agg (tyV t).toArray] w fun e w' => e = .returned (.bool (rFirst t)) ∧ Fr No w w' := by
 obtain ⟨R, hR⟩ : ∃ R, rFirst t = R := ⟨_, rfl⟩
 rw [hR]
 rw [rFirst_eq] at hR
 have HR := hid hR; have HZ := hid hz
 clear hR hz
 go_enter Tryz.func42, Tryz.ntmps42
 go_wp2_with (first
  | ((with_reducible refine K.atO (.box 53 _) ?_); refine wpL_box rfl _ _ rfl _ rfl (tyV t) rfl ?_; intro w1 HB1 HF1 HS1; refine Hid.out ?_))
 obtain ⟨g, hg⟩ : ∃ g, w.heap.size = g := ⟨_, rfl⟩
 rw [hg] at HB1 ⊢
 clear hg
 have c0 : w1.cell? ⟨g, 0, none⟩ = some (.string (sb t.nm)) := HB1.out.cell 0
 refine hid ?_
 go_wp2_with fail
 refine (slower_any t.nm HZ.out w1).mono ?_
 rintro e w2 ⟨rfl, f2⟩
 have HB2 := hid (HB1.out.fr f2 id)
 have c2 : w2.cell? ⟨g, 0, none⟩ = some (.string (sb t.nm)) := HB2.out.cell 0
 have HF2 := hid (HF1.out.trans' f2)
 have HR2 : Hid (w2.rangeAt g 0 (tyV t)) := hid (HB2.out.range 0 _ (by rw [List.drop_zero, List.take_length]))
 clear f2 c0
 obtain ⟨P, hP⟩ : ∃ P, decide (low t.nm = oc) = P := ⟨_, rfl⟩
 have HP := hid hP
 clear hP
 cases P with
 | false =>
  obtain rfl : R = false := by have h := HR.out; rw [HP.out] at h; exact h.symm
  go_wp2_with (first
   | ((with_reducible refine K.atO (.binOp .eql 9 _ _ _) ?_); refine wpL_valZ rfl (.bool false) (by rw [← HP.out]; exact exec_eqS _ _ _ rfl (low t.nm) oc rfl rfl w2) ?_))
  go_ret
  exact ⟨rfl, HF2.out⟩
 | true =>
  have HR3 : Hid (decide (t = ⟨t.nm, 1, false, false, false, false⟩) = R) := hid (by have h := HR.out; rw [HP.out] at h; exact h)
  go_wp2_with (first
   | ((with_reducible refine K.atO (.binOp .eql 9 _ _ _) ?_); refine wpL_valZ rfl (.bool true) (by rw [← HP.out]; exact exec_eqS _ _ _ rfl (low t.nm) oc rfl rfl w2) ?_)
   | ((with_reducible refine K.atO (.load 53 _) ?_); refine wpL_valZ rfl (.agg (tyV t).toArray) (exec_load _ _ rfl g 0 rfl (tyV t) _ rfl rfl infoTy w2 HR2.out) ?_)
   | ((with_reducible refine K.atO (.build 53 _) ?_); refine wpL_valZ rfl (.agg (tyV ⟨t.nm, 1, false, false, false, false⟩).toArray) (exec_buildTy _ rfl t.nm rfl w2) ?_)
   | ((with_reducible refine K.atO (.binOp .eql 53 _ _ _) ?_); refine wpL_valZ rfl (.bool R) (exec_eqTy _ _ _ rfl t ⟨t.nm, 1, false, false, false, false⟩ R HR3.out rfl rfl w2) ?_))
  go_ret
  exact ⟨rfl, HF2.out⟩
end Go.Proofs.YtgbiicipkbpmeaaGreatDoor.SC
