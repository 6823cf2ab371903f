/-
  Part 6 of the proof: DnQ, DnT, DrA, DnO, DrB, DnE.
-/
import Derived.Test.YtooodoacpdhbfaaGreatDoorSm02
import Derived.Test.YtooodoacpdhbfaaGreatDoorSm05
import Derived.Lib.OthersKept
import Derived.Test.YtooodoacpdhbfaaGreatDoorSm04
set_option linter.unusedSimpArgs false
set_option linter.unusedVariables false
namespace Go.Proofs.YtooodoacpdhbfaaGreatDoor.DN
set_option maxRecDepth 100000
open Go.RowKit K Go.Proofs.YtooodoacpdhbfaaGreatDoor.BE

/-- Told: a place, or -1. -/
def Found (b : Bool) (w : World) (e : Ending) (w' : World) : Prop := ∃ n : Int, e = .returned (.int .i64 n) ∧ decide (0 ≤ n) = b ∧ -1 ≤ n ∧ n ≤ 9223372036854775807 ∧ Fr No w w'
set_option maxHeartbeats 8000000 in
theorem indexAv {α : Type} (f : FuncId) (cap : List Value) (q : α → Bool) (p : World → α → List Value → Prop) (E : Nat → Prop) (v0 : Value) (X : List α) (w : World) (hp : ∀ w w' x c, p w x c → Fr No w w' → p w' x c)
    (h0 : Sl 2 (p w) E w v0 X) (hent : ∀ (vs : Array Value) (w : World), (callFunc f vs).run Tryz.prog w = .ok (.enter f vs) w)
    (hf : ∀ x ∈ X, ∀ c wv, p wv x c → Fr No w wv → Calls Tryz.prog f (Value.agg c.toArray :: cap).toArray wv fun e w' => e = .returned (.bool (q x)) ∧ Fr No wv w') :
    Calls Tryz.prog 145 #[v0, .func (.func f) #[] cap.toArray] w (Found (X.any q) w) := by
  obtain ⟨a, c, rfl, -, hl0⟩ := h0.form
  have HX0 := hid h0
  obtain ⟨n, hn⟩ : ∃ n, X.length = n := ⟨_, rfl⟩
  rw [hn] at HX0 hl0 ⊢
  have HNN := hid hn; have HP := hid hp; have HE := hid hent; have HF := hid hf
  obtain ⟨R, hR⟩ : ∃ R, X.any q = R := ⟨_, rfl⟩
  rw [hR]
  have HR := hid hR
  have hni : (n : Int) ≤ 140737488351232 := by omega
  clear hp h0 hent hf hn hR
  go_enter Tryz.func145, Tryz.ntmps145
  go_wp2_with fail
  go_loopw [8] (fun iv wr => ∃ (i : Nat), iv = .int .i64 i ∧ i ≤ n ∧ Hid ((X.take i).any q = false ∧ Fr No w wr)) (fun iv _ => n - (intOf iv).toNat)
  case atStart => exact ⟨0, rfl, Nat.zero_le _, hid ⟨rfl, Fr.refl _ _⟩⟩
  case round =>
    obtain ⟨i, rfl, hi, HI⟩ := hrel
    by_cases hlt : i < n
    · have hiX : i < X.length := by rw [HNN.out]; exact hlt
      obtain ⟨x, hx⟩ : ∃ x, X[i]? = some x := ⟨_, List.getElem?_eq_getElem hiX⟩
      have HXM := hid (List.mem_of_getElem? hx)
      have HNX : Hid ((X.take (i + 1)).any q = (q x || false)) := hid (by
        have hxx : X[i] = x := by rw [List.getElem?_eq_getElem hiX] at hx; exact Option.some.inj hx
        rw [List.take_succ_eq_append_getElem hiX, List.any_append, HI.out.1, hxx]; simp)
      have hlti : (i : Int) < n := by omega
      have hi0 : (0 : Int) ≤ i := by omega
      obtain ⟨g, o, cp, c, e1, hEg, hgw, hr, hc, hxa⟩ := (HX0.out.fr HI.out.2 (fun _ _ _ e => e) (fun x c _ h => HP.out _ _ x c h HI.out.2)).get hx
      rw [HNN.out] at e1
      simp only [Value.slice.injEq, true_and] at e1
      obtain ⟨rfl, rfl⟩ := e1
      have HXA := hid hxa; have HC := hid hc; have HRR := hid hr
      have HI3 : Hid ((Tryz.prog.info? 71).map (·.size) = some c.length) := hid (by rw [hc]; exact infoAv)
      clear hc hEg hgw hr hxa hx
      go_wp2_with (first
        | ((with_reducible refine K.atO (.load 71 _) ?_); refine wpL_load rfl _ _ rfl g (o + i * 2) rfl c _ HRR.out rfl rfl HI3.out ?_)
        | ((with_reducible refine K.atO (.call { callee := .value _, args := _, argTypes := _ }) ?_); refine wpL_callP rfl _ [_] _ rfl f cap rfl HE.out (Value.agg c.toArray :: cap) rfl ?_)
        | fail)
      refine (HF.out x HXM.out c wr HXA.out HI.out.2).mono ?_
      rintro e w4 ⟨rfl, f4⟩
      refine .inl ⟨_, rfl, ?_⟩
      have HF4 := hid (HI.out.2.trans' f4)
      have HLT := hid hlt
      clear f4 hlt
      cases hq : q x with
      | true =>
        have HQ := hid hq
        clear hq
        go_wp2_with fail
        go_ret
        refine ⟨i, rfl, ?_, by omega, by omega, HF4.out⟩
        rw [← HR.out]
        have h1 : X.any q = true := List.any_eq_true.2 ⟨x, HXM.out, HQ.out⟩
        rw [h1]
        simp
      | false =>
        have HQ := hid hq
        clear hq
        go_wp2_with fail
        go_roundw
        case rel => exact ⟨i + 1, by go_num, HLT.out, hid ⟨by rw [HNX.out, HQ.out]; rfl, HF4.out⟩⟩
        case measure => have := HLT.out; simp [intOf]; omega
    · obtain rfl : i = n := by omega
      go_wp2_with fail
      go_ret
      refine ⟨-1, rfl, ?_, by omega, by omega, HI.out.2⟩
      rw [← HR.out]
      have h1 := HI.out.1
      rw [List.take_of_length_le (by rw [HNN.out]; exact Nat.le_refl _)] at h1
      rw [h1]
      rfl
theorem containsAv {α : Type} (f : FuncId) (cap : List Value) (q : α → Bool) (p : World → α → List Value → Prop) (E : Nat → Prop) (v0 : Value) (X : List α) (w : World) (hp : ∀ w w' x c, p w x c → Fr No w w' → p w' x c)
    (h0 : Sl 2 (p w) E w v0 X) (hent : ∀ (vs : Array Value) (w : World), (callFunc f vs).run Tryz.prog w = .ok (.enter f vs) w)
    (hf : ∀ x ∈ X, ∀ c wv, p wv x c → Fr No w wv → Calls Tryz.prog f (Value.agg c.toArray :: cap).toArray wv fun e w' => e = .returned (.bool (q x)) ∧ Fr No wv w') :
    Calls Tryz.prog 118 #[v0, .func (.func f) #[] cap.toArray] w fun e w' => e = .returned (.bool (X.any q)) ∧ Fr No w w' := by
  have H := hid (indexAv f cap q p E v0 X w hp h0 hent hf)
  obtain ⟨a, c, rfl, -, -⟩ := h0.form
  obtain ⟨R, hR⟩ : ∃ R, X.any q = R := ⟨_, rfl⟩
  obtain ⟨n, hn⟩ : ∃ n, X.length = n := ⟨_, rfl⟩
  rw [hR] at H ⊢
  rw [hn] at H ⊢
  clear hp h0 hent hf hR hn
  go_enter Tryz.func118, Tryz.ntmps118
  go_wp2_with fail
  refine H.out.mono ?_
  rintro e w2 ⟨m, rfl, hm, h1, h2, f2⟩
  have HF := hid f2
  clear f2
  have HM := hid hm
  clear hm
  go_wp2_with fail
  go_ret
  exact ⟨by rw [← HM.out]; rfl, HF.out⟩
set_option maxHeartbeats 8000000 in
theorem indexRd {α : Type} (f : FuncId) (cap : List Value) (q : α → Bool) (p : World → α → Value → Prop) (E : Nat → Prop) (v0 : Value) (X : List α) (w : World) (hp : ∀ w w' x c, p w x c → Fr No w w' → p w' x c)
    (h0 : Sl 1 (fun x c => ∃ v, c = [v] ∧ p w x v) E w v0 X) (hent : ∀ (vs : Array Value) (w : World), (callFunc f vs).run Tryz.prog w = .ok (.enter f vs) w)
    (hf : ∀ x ∈ X, ∀ c wv, p wv x c → Fr No w wv → Calls Tryz.prog f (c :: cap).toArray wv fun e w' => e = .returned (.bool (q x)) ∧ Fr No wv w') :
    Calls Tryz.prog 116 #[v0, .func (.func f) #[] cap.toArray] w (Found (X.any q) w) := by
  obtain ⟨a, c, rfl, -, hl0⟩ := h0.form
  have HX0 := hid h0
  obtain ⟨n, hn⟩ : ∃ n, X.length = n := ⟨_, rfl⟩
  rw [hn] at HX0 hl0 ⊢
  have HNN := hid hn; have HP := hid hp; have HE := hid hent; have HF := hid hf
  obtain ⟨R, hR⟩ : ∃ R, X.any q = R := ⟨_, rfl⟩
  rw [hR]
  have HR := hid hR
  have hni : (n : Int) ≤ 140737488351232 := by omega
  clear hp h0 hent hf hn hR
  go_enter Tryz.func116, Tryz.ntmps116
  go_wp2_with fail
  go_loopw [8] (fun iv wr => ∃ (i : Nat), iv = .int .i64 i ∧ i ≤ n ∧ Hid ((X.take i).any q = false ∧ Fr No w wr)) (fun iv _ => n - (intOf iv).toNat)
  case atStart => exact ⟨0, rfl, Nat.zero_le _, hid ⟨rfl, Fr.refl _ _⟩⟩
  case round =>
    obtain ⟨i, rfl, hi, HI⟩ := hrel
    by_cases hlt : i < n
    · have hiX : i < X.length := by rw [HNN.out]; exact hlt
      obtain ⟨x, hx⟩ : ∃ x, X[i]? = some x := ⟨_, List.getElem?_eq_getElem hiX⟩
      have HXM := hid (List.mem_of_getElem? hx)
      have HNX : Hid ((X.take (i + 1)).any q = (q x || false)) := hid (by
        have hxx : X[i] = x := by rw [List.getElem?_eq_getElem hiX] at hx; exact Option.some.inj hx
        rw [List.take_succ_eq_append_getElem hiX, List.any_append, HI.out.1, hxx]; simp)
      have hlti : (i : Int) < n := by omega
      have hi0 : (0 : Int) ≤ i := by omega
      obtain ⟨g, o, cp, c, e1, hEg, hgw, hr, hc, hxa⟩ := (Sl.fr (p' := fun x c => ∃ v, c = [v] ∧ p wr x v) HX0.out HI.out.2 (fun _ _ _ e => e) (fun x c _ h => ⟨h.choose, h.choose_spec.1, HP.out _ _ x _ h.choose_spec.2 HI.out.2⟩)).get hx
      rw [HNN.out] at e1
      simp only [Value.slice.injEq, true_and] at e1
      obtain ⟨rfl, rfl⟩ := e1
      obtain ⟨c, rfl, hxa⟩ := hxa
      have hcell : wr.cell? ⟨g, o + i, none⟩ = some c := by have := hr 0 c rfl; simpa using this
      have HXA := hid hxa
      clear hc hEg hgw hr hxa hx
      go_wp2_with (first
        | ((with_reducible refine K.atO (.call { callee := .value _, args := _, argTypes := _ }) ?_); refine wpL_callP rfl _ [_] _ rfl f cap rfl HE.out (c :: cap) rfl ?_)
        | fail)
      refine (HF.out x HXM.out c wr HXA.out HI.out.2).mono ?_
      rintro e w4 ⟨rfl, f4⟩
      refine .inl ⟨_, rfl, ?_⟩
      have HF4 := hid (HI.out.2.trans' f4)
      have HLT := hid hlt
      clear f4 hlt
      cases hq : q x with
      | true =>
        have HQ := hid hq
        clear hq
        go_wp2_with fail
        go_ret
        refine ⟨i, rfl, ?_, by omega, by omega, HF4.out⟩
        rw [← HR.out]
        have h1 : X.any q = true := List.any_eq_true.2 ⟨x, HXM.out, HQ.out⟩
        rw [h1]
        simp
      | false =>
        have HQ := hid hq
        clear hq
        go_wp2_with fail
        go_roundw
        case rel => exact ⟨i + 1, by go_num, HLT.out, hid ⟨by rw [HNX.out, HQ.out]; rfl, HF4.out⟩⟩
        case measure => have := HLT.out; simp [intOf]; omega
    · obtain rfl : i = n := by omega
      go_wp2_with fail
      go_ret
      refine ⟨-1, rfl, ?_, by omega, by omega, HI.out.2⟩
      rw [← HR.out]
      have h1 := HI.out.1
      rw [List.take_of_length_le (by rw [HNN.out]; exact Nat.le_refl _)] at h1
      rw [h1]
      rfl
theorem containsRd {α : Type} (f : FuncId) (cap : List Value) (q : α → Bool) (p : World → α → Value → Prop) (E : Nat → Prop) (v0 : Value) (X : List α) (w : World) (hp : ∀ w w' x c, p w x c → Fr No w w' → p w' x c)
    (h0 : Sl 1 (fun x c => ∃ v, c = [v] ∧ p w x v) E w v0 X) (hent : ∀ (vs : Array Value) (w : World), (callFunc f vs).run Tryz.prog w = .ok (.enter f vs) w)
    (hf : ∀ x ∈ X, ∀ c wv, p wv x c → Fr No w wv → Calls Tryz.prog f (c :: cap).toArray wv fun e w' => e = .returned (.bool (q x)) ∧ Fr No wv w') :
    Calls Tryz.prog 80 #[v0, .func (.func f) #[] cap.toArray] w fun e w' => e = .returned (.bool (X.any q)) ∧ Fr No w w' := by
  have H := hid (indexRd f cap q p E v0 X w hp h0 hent hf)
  obtain ⟨a, c, rfl, -, -⟩ := h0.form
  obtain ⟨R, hR⟩ : ∃ R, X.any q = R := ⟨_, rfl⟩
  obtain ⟨n, hn⟩ : ∃ n, X.length = n := ⟨_, rfl⟩
  rw [hR] at H ⊢
  rw [hn] at H ⊢
  clear hp h0 hent hf hR hn
  go_enter Tryz.func80, Tryz.ntmps80
  go_wp2_with fail
  refine H.out.mono ?_
  rintro e w2 ⟨m, rfl, hm, h1, h2, f2⟩
  have HF := hid f2
  clear f2
  have HM := hid hm
  clear hm
  go_wp2_with fail
  go_ret
  exact ⟨by rw [← HM.out]; rfl, HF.out⟩
end Go.Proofs.YtooodoacpdhbfaaGreatDoor.DN

namespace Go.Proofs.YtooodoacpdhbfaaGreatDoor.DN
set_option maxRecDepth 100000
open Go.RowKit K Go.Proofs.YtooodoacpdhbfaaGreatDoor.BE

def letN (n : Nat) : Bool := decide (97 ≤ n ∧ n ≤ 122) || decide (65 ≤ n ∧ n ≤ 90)
def digN (n : Nat) : Bool := decide (48 ≤ n ∧ n ≤ 57)
theorem isLetter_any (n : Nat) (w : World) : Calls Tryz.prog 42 #[.int .i32 (n : Int)] w fun e w' => e = .returned (.bool (letN n)) ∧ w' = w := by
  have h : (n < 65 ∧ letN n = false) ∨ ((65 ≤ n ∧ n ≤ 90) ∧ letN n = true) ∨ ((90 < n ∧ n < 97) ∧ letN n = false) ∨ ((97 ≤ n ∧ n ≤ 122) ∧ letN n = true) ∨ (122 < n ∧ letN n = false) := by
    unfold letN
    simp only [Bool.or_eq_true, Bool.or_eq_false_iff, decide_eq_true_eq, decide_eq_false_iff_not]
    omega
  rcases h with ⟨h1, h2⟩ | ⟨⟨h1, h3⟩, h2⟩ | ⟨⟨h1, h3⟩, h2⟩ | ⟨⟨h1, h3⟩, h2⟩ | ⟨h1, h2⟩
  · rw [h2]; clear h2
    have a1 : ¬ (97 : Int) ≤ n := by omega
    have a2 : ¬ (65 : Int) ≤ n := by omega
    go_enter Tryz.func42, Tryz.ntmps42
    go_wp2
    go_ret
    exact ⟨rfl, rfl⟩
  · rw [h2]; clear h2
    have a1 : ¬ (97 : Int) ≤ n := by omega
    have a2 : (65 : Int) ≤ n := by omega
    have a3 : (n : Int) ≤ 90 := by omega
    go_enter Tryz.func42, Tryz.ntmps42
    go_wp2
    go_ret
    exact ⟨rfl, rfl⟩
  · rw [h2]; clear h2
    have a1 : ¬ (97 : Int) ≤ n := by omega
    have a2 : (65 : Int) ≤ n := by omega
    have a3 : ¬ (n : Int) ≤ 90 := by omega
    go_enter Tryz.func42, Tryz.ntmps42
    go_wp2
    go_ret
    exact ⟨rfl, rfl⟩
  · rw [h2]; clear h2
    have a1 : (97 : Int) ≤ n := by omega
    have a2 : (n : Int) ≤ 122 := by omega
    go_enter Tryz.func42, Tryz.ntmps42
    go_wp2
    go_ret
    exact ⟨rfl, rfl⟩
  · rw [h2]; clear h2
    have a1 : (97 : Int) ≤ n := by omega
    have a2 : ¬ (n : Int) ≤ 122 := by omega
    have a3 : (65 : Int) ≤ n := by omega
    have a4 : ¬ (n : Int) ≤ 90 := by omega
    go_enter Tryz.func42, Tryz.ntmps42
    go_wp2
    go_ret
    exact ⟨rfl, rfl⟩
theorem isDigit_any (n : Nat) (w : World) : Calls Tryz.prog 43 #[.int .i32 (n : Int)] w fun e w' => e = .returned (.bool (digN n)) ∧ w' = w := by
  have h : (n < 48 ∧ digN n = false) ∨ ((48 ≤ n ∧ n ≤ 57) ∧ digN n = true) ∨ (57 < n ∧ digN n = false) := by
    unfold digN
    simp only [decide_eq_true_eq, decide_eq_false_iff_not]
    omega
  rcases h with ⟨h1, h2⟩ | ⟨⟨h1, h3⟩, h2⟩ | ⟨h1, h2⟩
  · rw [h2]; clear h2
    have a1 : ¬ (48 : Int) ≤ n := by omega
    go_enter Tryz.func43, Tryz.ntmps43
    go_wp2
    go_ret
    exact ⟨rfl, rfl⟩
  · rw [h2]; clear h2
    have a1 : (48 : Int) ≤ n := by omega
    have a2 : (n : Int) ≤ 57 := by omega
    go_enter Tryz.func43, Tryz.ntmps43
    go_wp2
    go_ret
    exact ⟨rfl, rfl⟩
  · rw [h2]; clear h2
    have a1 : (48 : Int) ≤ n := by omega
    have a2 : ¬ (n : Int) ≤ 57 := by omega
    go_enter Tryz.func43, Tryz.ntmps43
    go_wp2
    go_ret
    exact ⟨rfl, rfl⟩
/-- What may stand at a place of a type, of numbers. -/
def okN (first : Bool) (n : Nat) : Bool := letN n || (!first && (digN n || n == 45))
theorem ok_nat (first : Bool) (c : UInt8) : okAt first c = okN first c.toNat := by
  have := u8_all (fun c => okAt first c == okN first c.toNat) (by cases first <;> decide +kernel) c
  simpa using this
theorem okN_high (first : Bool) (n : Nat) (h : 128 ≤ n) : okN first n = false := by
  unfold okN letN digN
  simp
  omega
/-- The places of a type are right up to here. -/
def okTo (s : B) (i : Nat) : Prop := ∀ j c, j < i → s[j]? = some c → okAt (j == 0) c = true
theorem typ_len {s : B} (h : s.length = 0 ∨ 20 < s.length) : typ s = false := by
  unfold typ
  rcases h with h | h
  · rw [decide_eq_false (show ¬ 1 ≤ s.length by omega)]; rfl
  · rw [decide_eq_false (show ¬ s.length ≤ 20 by omega)]; simp
theorem typ_all {s : B} (h1 : 1 ≤ s.length) (h2 : s.length ≤ 20) : typ s = true ↔ okTo s s.length := by
  unfold typ okTo
  rw [decide_eq_true h1, decide_eq_true h2]
  cases s with
  | nil => simp at h1
  | cons c r =>
    simp only [Bool.true_and, Bool.and_eq_true, List.all_eq_true]
    constructor
    · rintro ⟨h3, h4⟩ j d hj hd
      cases j with
      | zero =>
        obtain rfl : c = d := by simpa using hd
        exact h3
      | succ j => exact h4 d (List.mem_of_getElem? (by simpa using hd))
    · intro h
      refine ⟨h 0 c (by simp) rfl, fun d hd => ?_⟩
      obtain ⟨j, hj⟩ := List.mem_iff_getElem?.1 hd
      exact h (j + 1) d (by have := (List.getElem?_eq_some_iff.1 hj).1; simp; omega) (by simpa using hj)
theorem typ_no {s : B} {i : Nat} {c : UInt8} (hc : s[i]? = some c) (h : okAt (i == 0) c = false) : typ s = false := by
  by_cases h1 : 1 ≤ s.length ∧ s.length ≤ 20
  · cases ht : typ s with
    | false => rfl
    | true =>
      have := (typ_all h1.1 h1.2).1 ht i c (List.getElem?_eq_some_iff.1 hc).1 hc
      rw [h] at this
      cases this
  · exact typ_len (by omega)
theorem iterAt_fr {w : World} {k : Nat} {s : ByteArray} {pos : Nat} : Fr (fun j => j = k) w (w.iterAt k s pos) := ⟨rfl, rfl, rfl, by rw [Lib.iterAt_size]; exact Nat.le_refl _, fun j _ hn => Lib.iterAt_other w k j s pos hn⟩
theorem empty_sb (l : B) : (sb l).toList.isEmpty = l.isEmpty := by rw [ByteArray.toList_eq, sb_list]
theorem nil_sb (l : B) : ((sb l).toList = []) = (l = []) := by rw [ByteArray.toList_eq, sb_list]
set_option maxHeartbeats 4000000 in
theorem type_any (s : B) (w : World) : Calls Tryz.prog 14 #[.string (sb s)] w fun e w' => e = .returned (.bool (typ s)) ∧ Fr No w w' := by
  by_cases h00 : s = []
  · subst h00
    have hT : typ [] = false := rfl
    have he : (sb []).toList.isEmpty = true := empty_sb []
    have hz : (sb []).size = 0 := rfl
    rw [hT]
    obtain ⟨S, hS⟩ : ∃ S, sb [] = S := ⟨_, rfl⟩
    rw [hS] at he hz ⊢
    clear hT hS
    go_enter Tryz.func14, Tryz.ntmps14
    go_wp2
    go_ret
    exact ⟨rfl, Fr.refl _ _⟩
  · have hz := sb_size s
    have hzl := sb_list s
    have hemp : (sb s).toList.isEmpty = false := by rw [empty_sb]; cases s with
      | nil => exact absurd rfl h00
      | cons _ _ => rfl
    have hnil : ¬ (sb s).toList = [] := by rw [nil_sb]; exact h00
    have hpos := List.length_pos_iff.2 h00
    obtain ⟨n, hn⟩ : ∃ n, s.length = n := ⟨_, rfl⟩
    obtain ⟨T, hT⟩ : ∃ T, typ s = T := ⟨_, rfl⟩
    have HNN := hid hn; have HT := hid hT
    rw [hn] at hz hpos
    by_cases h0 : 20 < n
    · have hTf : T = false := by rw [← hT]; exact typ_len (by omega)
      rw [hT, hTf]
      obtain ⟨S, hS⟩ : ∃ S, sb s = S := ⟨_, rfl⟩
      rw [hS] at hz hemp hnil ⊢
      have hszi : (20 : Int) < (S.size : Int) := by omega
      clear hn hT hTf hz hzl hS h00 h0 hpos
      go_enter Tryz.func14, Tryz.ntmps14
      go_wp2
      go_ret
      exact ⟨rfl, Fr.refl _ _⟩
    · have h1 : 1 ≤ n := by omega
      have h2 : n ≤ 20 := by omega
      rw [hT]
      obtain ⟨S, hS⟩ : ∃ S, sb s = S := ⟨_, rfl⟩
      have HZL : Hid (S.data.toList = s) := hid (by rw [← hS]; exact hzl)
      rw [hS] at hz hemp hnil ⊢
      have hszi : (S.size : Int) = n := by omega
      have hszl : ¬ (20 : Int) < n := by omega
      have HZ := hid hz
      clear h0 hn hT hz hzl hS h00 hpos
      obtain ⟨g, hg⟩ : ∃ g, w.heap.size = g := ⟨_, rfl⟩
      have HG := hid hg
      go_enter Tryz.func14, Tryz.ntmps14
      go_wp2_with fail
      try rw [hg]
      obtain ⟨w1, hw1⟩ : ∃ w1, w.iter S 0 = w1 := ⟨_, rfl⟩
      have HI0 : Hid (w1.heap[g]? = some (.stringIter S 0) ∧ Fr No w w1) := hid ⟨by rw [← hw1, ← hg]; exact World.iter_heap w S 0, by rw [← hw1]; exact (Fr.refl No w).alloc _⟩
      first | rw [hw1] | skip
      go_loopw [] (fun wr => ∃ (i : Nat), i ≤ n ∧ Hid (okTo s i) ∧ Hid (wr.heap[g]? = some (.stringIter S i)) ∧ Hid (Fr No w wr)) (fun wr => n - wr.iterPos g)
      case atStart => exact ⟨0, Nat.zero_le _, hid (fun j c hj => by omega), hid HI0.out.1, hid HI0.out.2⟩
      case round =>
        obtain ⟨i, hi, HOK, HIT, HFR⟩ := hrel
        clear HI0 hw1 hg
        by_cases hlt : i < n
        · obtain ⟨c, hc⟩ : ∃ c, s[i]? = some c := ⟨_, List.getElem?_eq_getElem (by rw [HNN.out]; exact hlt)⟩
          have hltS : i < S.size := by rw [HZ.out]; exact hlt
          have hSc : S[i]'hltS = c := by
            have h := hc
            rw [← HZL.out, List.getElem?_eq_getElem (by simpa using hltS)] at h
            exact Option.some.inj h
          have hnx : ∀ ty, (Instr.next (.pointer (some ⟨g, 0, none⟩)) true ty).run Tryz.prog wr = _ := fun ty => Lib.run_next_any_at wr g S i ty HIT.out hltS
          have hit2 := Lib.iterAt_heap wr g S i (i + (Utf8.decode S i).2) HIT.out
          have hok : okAt (i == 0) c = okN (i == 0) (Utf8.decode S i).1 ∧ (okN (i == 0) (Utf8.decode S i).1 = true → (Utf8.decode S i).2 = 1) := by
            rw [ok_nat]
            by_cases ha : c.toNat < 128
            · have h := decode_ascii S i hltS (by rw [hSc]; exact ha)
              rw [hSc] at h
              rw [h]
              exact ⟨rfl, fun _ => rfl⟩
            · have h := (decode_high S i hltS (by rw [hSc]; omega)).1
              rw [okN_high _ _ h, okN_high _ _ (by omega)]
              exact ⟨rfl, fun h => by cases h⟩
          obtain ⟨R, hR⟩ : ∃ R, (Utf8.decode S i).1 = R := ⟨_, rfl⟩
          obtain ⟨M, hM⟩ : ∃ M, (Utf8.decode S i).2 = M := ⟨_, rfl⟩
          obtain ⟨W, hW⟩ : ∃ W, wr.iterAt g S (i + M) = W := ⟨_, rfl⟩
          rw [hR, hM] at hnx hok
          rw [hM] at hit2
          rw [hW] at hnx hit2
          have hfW : Fr No w W := by rw [← hW]; exact HFR.out.trans iterAt_fr (fun k e => .inr (by rw [HG.out]; have e : k = g := e; omega))
          have HFW := hid hfW
          have HIT2 := hid hit2
          have HNX : Hid (okN (i == 0) R = true → okTo s (i + 1) ∧ M = 1) := hid (fun h => by
            refine ⟨fun j d hj hd => ?_, hok.2 h⟩
            by_cases hji : j = i
            · subst hji
              rw [hc] at hd
              obtain rfl := Option.some.inj hd
              rw [hok.1, h]
            · exact HOK.out j d (by omega) hd)
          have HNO : Hid (okN (i == 0) R = false → T = false) := hid (fun h => by rw [← HT.out]; exact typ_no hc (by rw [hok.1, h]))
          have HLT := hid hlt
          have hi0 : (0 : Int) ≤ i := by omega
          have HPOS := hid (show wr.iterPos g = i by unfold World.iterPos; rw [HIT.out])
          clear hc hltS hSc hit2 hok hR hM hW hfW HIT HOK hlt hi
          cases hl : letN R with
          | true =>
            obtain ⟨k1, k2⟩ := HNX.out (by unfold okN; rw [hl]; rfl)
            subst k2
            have HL := hid (fun w => isLetter_any R w)
            rw [hl] at HL
            have HK1 := hid k1
            clear hl HNX HNO k1
            go_wp2_with fail
            refine (HL.out _).mono ?_
            rintro e w3 ⟨rfl, rfl⟩
            go_wp2_with fail
            refine ⟨⟨i + 1, HLT.out, HK1, HIT2, HFW⟩, ?_⟩
            have h5 := HIT2.out
            have h6 := HLT.out
            rw [HPOS.out]
            unfold World.iterPos
            rw [h5]
            show n - (i + 1) < n - i
            omega
          | false =>
            have HL := hid (fun w => isLetter_any R w)
            rw [hl] at HL
            by_cases hz0 : i = 0
            · subst hz0
              have hTf := HNO.out (by unfold okN; rw [hl]; rfl)
              subst hTf
              clear hl HNX HNO
              go_wp2_with fail
              refine (HL.out _).mono ?_
              rintro e w3 ⟨rfl, rfl⟩
              go_wp2_with fail
              go_ret
              exact ⟨rfl, HFW.out⟩
            · have hz1 : ¬ (i : Int) = 0 := by omega
              have HD := hid (fun w => isDigit_any R w)
              have hzb : (i == 0) = false := by simpa using hz0
              cases hd : digN R with
              | true =>
                obtain ⟨k1, k2⟩ := HNX.out (by unfold okN; rw [hl, hd, hzb]; rfl)
                subst k2
                rw [hd] at HD
                have HK1 := hid k1
                clear hl hd HNX HNO k1 hzb hz0
                go_wp2_with fail
                refine (HL.out _).mono ?_
                rintro e w3 ⟨rfl, rfl⟩
                go_wp2_with fail
                refine (HD.out _).mono ?_
                rintro e w4 ⟨rfl, rfl⟩
                go_wp2_with fail
                refine ⟨⟨i + 1, HLT.out, HK1, HIT2, HFW⟩, ?_⟩
                have h5 := HIT2.out
                have h6 := HLT.out
                rw [HPOS.out]
                unfold World.iterPos
                rw [h5]
                show n - (i + 1) < n - i
                omega
              | false =>
                rw [hd] at HD
                by_cases h45 : R = 45
                · obtain ⟨k1, k2⟩ := HNX.out (by unfold okN; rw [hl, hd, hzb, h45]; rfl)
                  subst k2
                  have HK1 := hid k1
                  subst h45
                  have HL4 : Hid (∀ w : World, Calls Tryz.prog 42 #[.int .i32 45] w fun e w' => e = .returned (.bool false) ∧ w' = w) := HL
                  have HD4 : Hid (∀ w : World, Calls Tryz.prog 43 #[.int .i32 45] w fun e w' => e = .returned (.bool false) ∧ w' = w) := HD
                  have hnx4 : ∀ ty, (Instr.next (.pointer (some ⟨g, 0, none⟩)) true ty).run Tryz.prog wr = .ok (.tuple #[.bool true, .int .i64 (i : Int), .int .i32 45]) W := hnx
                  clear hl hd HNX HNO k1 hzb hz0 HL HD hnx
                  go_wp2_with fail
                  refine (HL4.out _).mono ?_
                  rintro e w3 ⟨rfl, rfl⟩
                  go_wp2_with fail
                  refine (HD4.out _).mono ?_
                  rintro e w4 ⟨rfl, rfl⟩
                  go_wp2_with fail
                  refine ⟨⟨i + 1, HLT.out, HK1, HIT2, HFW⟩, ?_⟩
                  have h5 := HIT2.out
                  have h6 := HLT.out
                  rw [HPOS.out]
                  unfold World.iterPos
                  rw [h5]
                  show n - (i + 1) < n - i
                  omega
                · have hTf := HNO.out (by unfold okN; rw [hl, hd, hzb]; simpa using h45)
                  subst hTf
                  have hR45 : ((R : Int) != 45) = true := by rw [bne_iff_ne]; omega
                  have hzi : ((i : Int) == 0) = false := by rw [beq_eq_false_iff_ne]; exact hz1
                  clear hl hd HNX HNO hzb hz0 h45
                  go_wp2_with fail
                  refine (HL.out _).mono ?_
                  rintro e w3 ⟨rfl, rfl⟩
                  go_wp2_with fail
                  refine (HD.out _).mono ?_
                  rintro e w4 ⟨rfl, rfl⟩
                  go_wp2_with fail
                  go_ret
                  exact ⟨rfl, HFW.out⟩
        · obtain rfl : i = n := by omega
          have hTt : T = true := by
            rw [← HT.out]
            exact (typ_all (by rw [HNN.out]; exact h1) (by rw [HNN.out]; exact h2)).2 (by rw [HNN.out]; exact HOK.out)
          subst hTt
          have hnx : ∀ ty, (Instr.next (.pointer (some ⟨g, 0, none⟩)) true ty).run Tryz.prog wr = .ok (.tuple #[.bool false]) wr := fun ty => Lib.run_next_end_at wr g S i ty HIT.out (by rw [HZ.out]; omega)
          go_wp2_with fail
          go_ret
          exact ⟨rfl, HFR.out⟩
end Go.Proofs.YtooodoacpdhbfaaGreatDoor.DN

namespace Go.Proofs.YtooodoacpdhbfaaGreatDoor.DN
set_option maxRecDepth 100000
open Go.RowKit K Go.Proofs.YtooodoacpdhbfaaGreatDoor.BE

theorem let_n (c : UInt8) : isLet c = decide ((97 ≤ c.toNat ∧ c.toNat ≤ 122) ∨ (65 ≤ c.toNat ∧ c.toNat ≤ 90)) := by
  have := u8_all (fun c => isLet c == decide ((97 ≤ c.toNat ∧ c.toNat ≤ 122) ∨ (65 ≤ c.toNat ∧ c.toNat ≤ 90))) (by decide +kernel) c
  simpa using this
theorem dig_n (c : UInt8) : isDig c = decide (48 ≤ c.toNat ∧ c.toNat ≤ 57) := by
  have := u8_all (fun c => isDig c == decide (48 ≤ c.toNat ∧ c.toNat ≤ 57)) (by decide +kernel) c
  simpa using this
theorem sign_n (c : UInt8) : sign c = decide (c.toNat = 34 ∨ c.toNat = 43 ∨ c.toNat = 44 ∨ c.toNat = 59 ∨ c.toNat = 60 ∨ c.toNat = 62 ∨ c.toNat = 92) := by
  have := u8_all (fun c => sign c == decide (c.toNat = 34 ∨ c.toNat = 43 ∨ c.toNat = 44 ∨ c.toNat = 59 ∨ c.toNat = 60 ∨ c.toNat = 62 ∨ c.toNat = 92)) (by decide +kernel) c
  simpa using this
/-- The document's number of a digit: 16: it is none. -/
def hexN (c : UInt8) : Nat := match hexv c with
  | some x => x.toNat
  | none => 16
theorem hex_n (c : UInt8) : hexN c = if 48 ≤ c.toNat ∧ c.toNat ≤ 57 then c.toNat - 48 else if 97 ≤ c.toNat ∧ c.toNat ≤ 102 then c.toNat - 87 else if 65 ≤ c.toNat ∧ c.toNat ≤ 70 then c.toNat - 55 else 16 := by
  have := u8_all (fun c => hexN c == if 48 ≤ c.toNat ∧ c.toNat ≤ 57 then c.toNat - 48 else if 97 ≤ c.toNat ∧ c.toNat ≤ 102 then c.toNat - 87 else if 65 ≤ c.toNat ∧ c.toNat ≤ 70 then c.toNat - 55 else 16) (by decide +kernel) c
  simpa using this
theorem letter_any (c : UInt8) (w : World) : Calls Tryz.prog 44 #[.int .u8 (c.toNat : Int)] w fun e w' => e = .returned (.bool (isLet c)) ∧ w' = w := by
  rw [let_n]
  generalize c.toNat = n
  have hc : n < 65 ∨ (65 ≤ n ∧ n ≤ 90) ∨ (90 < n ∧ n < 97) ∨ (97 ≤ n ∧ n ≤ 122) ∨ 122 < n := by omega
  rcases hc with h | h | h | h | h
  · have h1 : ¬ (97 : Int) ≤ n := by omega
    have h2 : ¬ (65 : Int) ≤ n := by omega
    rw [decide_eq_false (by omega)]
    clear h
    go_enter Tryz.func44, Tryz.ntmps44
    go_wp2
    go_ret
    exact ⟨rfl, rfl⟩
  · have h1 : ¬ (97 : Int) ≤ n := by omega
    have h2 : (65 : Int) ≤ n := by omega
    have h3 : (n : Int) ≤ 90 := by omega
    rw [decide_eq_true (by omega)]
    clear h
    go_enter Tryz.func44, Tryz.ntmps44
    go_wp2
    go_ret
    exact ⟨rfl, rfl⟩
  · have h1 : ¬ (97 : Int) ≤ n := by omega
    have h2 : (65 : Int) ≤ n := by omega
    have h3 : ¬ (n : Int) ≤ 90 := by omega
    rw [decide_eq_false (by omega)]
    clear h
    go_enter Tryz.func44, Tryz.ntmps44
    go_wp2
    go_ret
    exact ⟨rfl, rfl⟩
  · have h1 : (97 : Int) ≤ n := by omega
    have h2 : (n : Int) ≤ 122 := by omega
    rw [decide_eq_true (by omega)]
    clear h
    go_enter Tryz.func44, Tryz.ntmps44
    go_wp2
    go_ret
    exact ⟨rfl, rfl⟩
  · have h1 : (97 : Int) ≤ n := by omega
    have h2 : ¬ (n : Int) ≤ 122 := by omega
    have h3 : (65 : Int) ≤ n := by omega
    have h4 : ¬ (n : Int) ≤ 90 := by omega
    rw [decide_eq_false (by omega)]
    clear h
    go_enter Tryz.func44, Tryz.ntmps44
    go_wp2
    go_ret
    exact ⟨rfl, rfl⟩
theorem digit_any (c : UInt8) (w : World) : Calls Tryz.prog 45 #[.int .u8 (c.toNat : Int)] w fun e w' => e = .returned (.bool (isDig c)) ∧ w' = w := by
  rw [dig_n]
  generalize c.toNat = n
  by_cases h1 : 48 ≤ n
  · have h1i : (48 : Int) ≤ n := by omega
    by_cases h2 : n ≤ 57
    · have h2i : (n : Int) ≤ 57 := by omega
      rw [decide_eq_true (by omega)]
      clear h1 h2
      go_enter Tryz.func45, Tryz.ntmps45
      go_wp2
      go_ret
      exact ⟨rfl, rfl⟩
    · have h2i : ¬ (n : Int) ≤ 57 := by omega
      rw [decide_eq_false (by omega)]
      clear h1 h2
      go_enter Tryz.func45, Tryz.ntmps45
      go_wp2
      go_ret
      exact ⟨rfl, rfl⟩
  · have h1i : ¬ (48 : Int) ≤ n := by omega
    rw [decide_eq_false (by omega)]
    clear h1
    go_enter Tryz.func45, Tryz.ntmps45
    go_wp2
    go_ret
    exact ⟨rfl, rfl⟩
theorem signs_any (c : UInt8) (w : World) : Calls Tryz.prog 82 #[.int .u8 (c.toNat : Int)] w fun e w' => e = .returned (.bool (sign c)) ∧ w' = w := by
  rw [sign_n]
  generalize c.toNat = n
  obtain ⟨R, hR⟩ : ∃ R, decide (n = 34 ∨ n = 43 ∨ n = 44 ∨ n = 59 ∨ n = 60 ∨ n = 62 ∨ n = 92) = R := ⟨_, rfl⟩
  rw [hR]
  have HR := hid hR
  clear hR
  go_enter Tryz.func82, Tryz.ntmps82
  go_wp2
  all_goals go_ret
  all_goals refine ⟨?_, rfl⟩
  all_goals have h := HR.out
  all_goals first
    | (rw [decide_eq_true (by omega)] at h; subst h; rfl)
    | (subst h; refine congrArg (fun b => Ending.returned (Value.bool b)) ?_; rw [Bool.eq_iff_iff]; simp; omega)
theorem hex_any (c : UInt8) (w : World) : Calls Tryz.prog 83 #[.int .u8 (c.toNat : Int)] w fun e w' => e = .returned (.int .i64 (hexN c : Int)) ∧ w' = w := by
  obtain ⟨H, hH⟩ : ∃ H, hexN c = H := ⟨_, rfl⟩
  have h0 := hex_n c
  have hc := c.toNat_lt
  rw [hH] at h0 ⊢
  generalize c.toNat = n at h0 hc
  have hn0 : (0 : Int) ≤ n := by omega
  have hn1 : (n : Int) < 256 := by omega
  have HH := hid h0
  clear h0 hH hc
  go_enter Tryz.func83, Tryz.ntmps83
  go_wp2
  all_goals go_ret
  all_goals refine ⟨congrArg (fun x : Int => Ending.returned (Value.int .i64 x)) ?_, rfl⟩
  all_goals have h := HH.out
  all_goals (repeat' split at h) <;> omega
theorem hexv_lt16 {c x : UInt8} (h : hexv c = some x) : x.toNat < 16 := by
  have := u8_all (fun c => match hexv c with | some x => decide (x.toNat < 16) | none => true) (by decide +kernel) c
  rw [h] at this
  simpa using this
theorem hex_join {x y : UInt8} (hx : x.toNat < 16) (hy : y.toNat < 16) : (16 * x + y).toNat = 16 * x.toNat + y.toNat := by
  rw [UInt8.toNat_add, UInt8.toNat_mul]
  have : (16 : UInt8).toNat = 16 := rfl
  rw [this]
  omega
theorem one_bare (den : B) (r : B) {c : UInt8} (h92 : c ≠ 92) (h44 : c ≠ 44) (h43 : c ≠ 43) : one den c r = if c = 0 ∨ sign c = true ∨ (den = [] ∧ (c = 35 ∨ c = 32)) then none else some (c, c == 32, r) := by
  unfold one sign
  rw [if_neg h92]
  by_cases k0 : c = 0 <;> by_cases k1 : c = 34 <;> by_cases k2 : c = 59 <;> by_cases k3 : c = 60 <;> by_cases k4 : c = 62 <;> by_cases k5 : c = 35 <;> by_cases k6 : c = 32 <;> by_cases k7 : den = [] <;> simp_all
theorem esc_ok {d : UInt8} {r : B} (h : (sign d || d == 35 || d == 61 || d == 32) = true) : esc (d :: r) = some (d, r) := by
  unfold esc
  simp only [h, if_true]
theorem esc_no {d : UInt8} {r : B} (h : ¬ (sign d || d == 35 || d == 61 || d == 32) = true) : esc (d :: r) = match r with
    | [] => none
    | d2 :: r' => match hexv d, hexv d2 with
      | some x, some y => some (16 * x + y, r')
      | _, _ => none := by
  unfold esc
  simp only [h, Bool.false_eq_true, if_false]
  cases r <;> rfl
end Go.Proofs.YtooodoacpdhbfaaGreatDoor.DN

namespace Go.Proofs.YtooodoacpdhbfaaGreatDoor.DN
set_option maxRecDepth 100000
open Go.RowKit K Go.Proofs.YtooodoacpdhbfaaGreatDoor.BE

/-- The value is a slice of n elements of e, k cells each: these; it has been made since w0; nothing that was there has turned. -/
def OwR (e : TypeId) (k : Nat) (w0 w : World) (v : Value) (n : Nat) (cs : List Value) : Prop := (∃ a c, v = .slice a n c) ∧ w.ownsRow w0.heap.size e k v n cs ∧ Fr No w0 w
def Info (e : TypeId) (z : Value) (k bytes : Nat) : Prop := (Tryz.prog.info? e).map (fun i => (i.zero, i.size, i.bytes)) = some (some z, k, bytes)
section
variable {e : TypeId} {k : Nat} {w0 w w' : World} {v : Value} {n : Nat} {cs : List Value}
theorem OwR.no (h : OwR e k w0 w v n cs) (hf : Fr No w w') : OwR e k w0 w' v n cs := ⟨h.1, own_fr h.2.1 hf (fun _ _ e => e), h.2.2.trans' hf⟩
theorem OwR.fr (h : OwR e k w0 w v n cs) : Fr No w0 w := h.2.2
theorem OwR.ge (h : OwR e k w0 w v n cs) (g : Nat) (hg : v.ownBlock = some g) : w0.heap.size ≤ g ∧ g < w.heap.size := own_ge h.2.1 g hg
/-- Whatever leaves the row alone. -/
theorem OwR.later {D : Nat → Prop} (h : OwR e k w0 w v n cs) (hf : Fr D w w') (hn : ∀ g, v.ownBlock = some g → ¬ D g) (hd : ∀ g, D g → w0.heap.size ≤ g) : OwR e k w0 w' v n cs :=
  ⟨h.1, own_fr h.2.1 hf hn, h.2.2.trans hf fun g e => .inr (hd g e)⟩
theorem owR_nil (h : Fr No w0 w) : OwR e k w0 w (.slice none 0 0) 0 [] := ⟨⟨_, _, rfl⟩, ⟨by simp, .inl ⟨rfl, rfl⟩⟩, h⟩
/-- It reads so. -/
theorem OwR.reads (h : OwR e k w0 w v n cs) : ∃ a cap, v = .slice a n cap ∧ n ≤ cap ∧ (n = 0 ∨ ∃ g, a = some ⟨g, 0, none⟩ ∧ w0.heap.size ≤ g ∧ g < w.heap.size ∧ w.rangeAt g 0 cs) := by
  obtain ⟨⟨a, c, rfl⟩, h1, -⟩ := h
  have hc : n ≤ c := by
    rcases h1.2 with ⟨h2, h0⟩ | ⟨g', cap', cur, h2, _, _, h3, _⟩
    · have h0 : n = 0 := h0
      omega
    · simp only [Value.slice.injEq] at h2
      omega
  refine ⟨a, c, rfl, hc, ?_⟩
  rcases Nat.eq_zero_or_pos n with h0 | h0
  · exact .inl h0
  · right
    obtain ⟨a', c', e1, -, h2⟩ := own_form h1
    simp only [Value.slice.injEq, true_and] at e1
    obtain ⟨rfl, rfl⟩ := e1
    obtain ⟨g, rfl⟩ := h2 h0
    have hg := own_ge h1 g rfl
    refine ⟨g, rfl, hg.1, hg.2, ?_⟩
    intro j u hj
    have := h1.cells (g := g) rfl j u hj
    rwa [Addr.add_mid] at this
end
section
variable {ops : Array Oper} {rest : List Oper} {op o1 o2 : Oper} {a : Act} {w : World} {Q : Exit → Act → World → Prop} {K : Act → World → Prop}
theorem wp_appR (s x : Operand) (t e : TypeId) (ho : op.op = .call { callee := .builtin .append, args := #[s, x], argTypes := #[t, t] }) (hu : Tryz.prog.underlying t = some (.slice e)) {z : Value} {k bytes : Nat} (hi : Info e z k bytes) (hz : z.cells.size = k) (hk : 0 < k)
    {w0 : World} {v : Value} {n : Nat} {cs : List Value} (hown : OwR e k w0 w v n cs) (hv : a.eval s = v) (b : Nat) (m c : Nat) (news : List Value) (hx : a.eval x = .slice (some ⟨b, 0, none⟩) m c) (hl : news.length = m * k) (hB : Blk w b e news) (h1 : ∀ u ∈ news, u.oneCell' = true)
    (hb : (n + m) * bytes ≤ 140737488355328) (h63 : n + m ≤ 140737488355328)
    (h : ∀ a' cap' w', Hid (OwR e k w0 w' (.slice a' (n + m) cap') (n + m) (cs ++ news)) → Hid (Fr (fun j => v.ownBlock = some j) w w') → K (a.put op.dst (.slice a' (n + m) cap')) w') : op.wp Tryz.prog a w K Q := by
  obtain ⟨i, hi0, hz0, hs, hbb⟩ := Go.info_parts hi
  refine BE.wp_append s x t ho w0.heap.size e i z k bytes hu hi0 hz0 hs hbb hz hk v n cs hv hown.2.1 (some ⟨b, 0, none⟩) m c news hx hl (.inr ⟨_, rfl, hB.news⟩) h1 (by unfold maxLen; omega) hb hown.2.2.size ?_
  intro a' cap' w' p q r
  exact h a' cap' w' (hid ⟨⟨_, _, rfl⟩, p.out, hown.2.2.trans (frown q.out) fun g e => .inr (hown.ge g e).1⟩) (hid (frown q.out))
/-- 'append(s, x)', in a plain region: the literal and the append together. -/
theorem wpL_app1 (hg1 : o1.guard = none) (hg2 : o2.guard = none) (x s y : Operand) (t e : TypeId) (ho1 : o1.op = .buildSlice t 1 #[(0, x)]) (ho2 : o2.op = .call { callee := .builtin .append, args := #[s, y], argTypes := #[t, t] }) (hu : Tryz.prog.underlying t = some (.slice e))
    {z : Value} {k bytes : Nat} (hi : Info e z k bytes) (hz : z.cells.size = k) (hk : 0 < k) (hk2 : k ≤ 16777216) {w0 : World} {v : Value} {n : Nat} {cs : List Value} (hown : OwR e k w0 w v n cs) (u : Value) (us : List Value) (hx : a.eval x = u) (hus : u.cells = us.toArray) (hl : us.length = k) (h1 : ∀ q ∈ us, q.oneCell' = true)
    (hs : ∀ q, (a.put o1.dst q).eval s = v) (hy : ∀ q, (a.put o1.dst q).eval y = q) (hb : (n + 1) * bytes ≤ 140737488355328) (h63 : n + 1 ≤ 140737488355328)
    (h : ∀ q a' cap' w', Hid (OwR e k w0 w' (.slice a' (n + 1) cap') (n + 1) (cs ++ us)) → Hid (Fr (fun j => v.ownBlock = some j) w w') → wpList Tryz.prog ops Q rest ((a.put o1.dst q).put o2.dst (.slice a' (n + 1) cap')) w') : wpList Tryz.prog ops Q (o1 :: o2 :: rest) a w := by
  obtain ⟨i, hi0, hz0, hsz, hbb⟩ := Go.info_parts hi
  refine wpL_buildOne hg1 t e x ho1 i z hu hi0 hz0 (by rw [hsz]; exact hk) (by rw [hsz]; exact hk2) u us hx hus (by rw [hsz]; exact hl) ?_
  intro w1 HB HF HS
  refine wpList_plain hg2 fun K hK => ?_
  have hown1 : OwR e k w0 w1 v n cs := hown.no HF.out
  refine wp_appR s y t e ho2 hu hi hz hk hown1 (hs _) w.heap.size 1 1 us (hy _) (by rw [hl, Nat.one_mul]) HB.out h1 hb h63 ?_
  intro a' cap' w' p q
  exact hK _ _ (h _ a' cap' w' p (hid (HF.out.no.trans' q.out)))
/-- The same, and where the row lies behind it. -/
theorem wpL_app1o (hg1 : o1.guard = none) (hg2 : o2.guard = none) (x s y : Operand) (t e : TypeId) (ho1 : o1.op = .buildSlice t 1 #[(0, x)]) (ho2 : o2.op = .call { callee := .builtin .append, args := #[s, y], argTypes := #[t, t] }) (hu : Tryz.prog.underlying t = some (.slice e))
    {z : Value} {k bytes : Nat} (hi : Info e z k bytes) (hz : z.cells.size = k) (hk : 0 < k) (hk2 : k ≤ 16777216) {w0 : World} {v : Value} {n : Nat} {cs : List Value} (hown : OwR e k w0 w v n cs) (u : Value) (us : List Value) (hx : a.eval x = u) (hus : u.cells = us.toArray) (hl : us.length = k) (h1 : ∀ q ∈ us, q.oneCell' = true)
    (hs : ∀ q, (a.put o1.dst q).eval s = v) (hy : ∀ q, (a.put o1.dst q).eval y = q) (hb : (n + 1) * bytes ≤ 140737488355328) (h63 : n + 1 ≤ 140737488355328)
    (h : ∀ q a' cap' w', Hid (OwR e k w0 w' (.slice a' (n + 1) cap') (n + 1) (cs ++ us)) → Hid (Fr (fun j => v.ownBlock = some j) w w') → Hid ((Value.slice a' (n + 1) cap').ownBlock = v.ownBlock ∨ ∃ g, (Value.slice a' (n + 1) cap').ownBlock = some g ∧ w.heap.size ≤ g) → wpList Tryz.prog ops Q rest ((a.put o1.dst q).put o2.dst (.slice a' (n + 1) cap')) w') : wpList Tryz.prog ops Q (o1 :: o2 :: rest) a w := by
  obtain ⟨i, hi0, hz0, hsz, hbb⟩ := Go.info_parts hi
  refine wpL_buildOne hg1 t e x ho1 i z hu hi0 hz0 (by rw [hsz]; exact hk) (by rw [hsz]; exact hk2) u us hx hus (by rw [hsz]; exact hl) ?_
  intro w1 HB HF HS
  refine wpList_plain hg2 fun K hK => ?_
  have hown1 : OwR e k w0 w1 v n cs := hown.no HF.out
  refine BE.wp_append s y t ho2 w0.heap.size e i z k bytes hu hi0 hz0 hsz hbb hz hk v n cs (hs _) hown1.2.1 (some ⟨w.heap.size, 0, none⟩) 1 1 us (hy _) (by rw [hl, Nat.one_mul]) (.inr ⟨_, rfl, HB.out.news⟩) h1 (by unfold maxLen; omega) hb hown1.2.2.size ?_
  intro a' cap' w' p q r
  refine hK _ _ (h _ a' cap' w' (hid ⟨⟨_, _, rfl⟩, p.out, hown1.2.2.trans (frown q.out) fun g e => .inr (hown1.ge g e).1⟩) (hid (HF.out.no.trans' (frown q.out))) (hid ?_))
  exact r.out.imp id fun e => ⟨_, e, by have := HF.out.size; exact this⟩
end
theorem infoU : Info 5 (.int .u8 0) 1 1 := by unfold Info; kernel_rfl
theorem infoStr : Info 9 (.string ⟨#[]⟩) 1 16 := by unfold Info; kernel_rfl
theorem infoAva : Info 71 (.agg #[.string ⟨#[]⟩, .string ⟨#[]⟩]) 2 32 := by unfold Info; kernel_rfl
theorem infoRdn : Info 68 (.slice none 0 0) 1 24 := by unfold Info; kernel_rfl
end Go.Proofs.YtooodoacpdhbfaaGreatDoor.DN

namespace Go.Proofs.YtooodoacpdhbfaaGreatDoor.DN
set_option maxRecDepth 100000
open Go.RowKit K Go.Proofs.YtooodoacpdhbfaaGreatDoor.BE

theorem exec_idxB {op : Oper} {a : Act} (x y : Operand) (ho : op.op = .index 9 x y) (l : B) {S : ByteArray} (hS : sb l = S) (i : Nat) (b : UInt8) (hi : l[i]? = some b) (n : Int) (hn : n = (i : Int)) (hx : a.eval x = .string S) (hy : a.eval y = .int .i64 n) (w : World) : (execOp a.eval op).run Tryz.prog w = .ok (.value (.int .u8 (b.toNat : Int))) w := by
  subst hS
  exact exec_idx x y ho l i b hi n hn hx hy w
theorem ok_n (c : UInt8) (f : Bool) : okAt f c = (isLet c || (!f && (isDig c || decide (c.toNat = 45)))) := by
  have h : (c == 45) = decide (c.toNat = 45) := by
    have := u8_all (fun c => (c == 45) == decide (c.toNat = 45)) (by decide +kernel) c
    simpa using this
  unfold okAt
  rw [h]
theorem typ_at {s : B} : typ s = true ↔ 1 ≤ s.length ∧ s.length ≤ 20 ∧ ∀ j c, s[j]? = some c → okAt (j == 0) c = true := by
  unfold typ
  cases s with
  | nil => simp
  | cons d r =>
    simp only [Bool.and_eq_true, decide_eq_true_eq, List.all_eq_true]
    constructor
    · rintro ⟨⟨h1, h2⟩, h3, h4⟩
      refine ⟨h1, h2, fun j c hj => ?_⟩
      cases j with
      | zero =>
        obtain rfl : d = c := by simpa using hj
        exact h3
      | succ j =>
        have hj : r[j]? = some c := by simpa using hj
        exact h4 c (List.mem_of_getElem? hj)
    · rintro ⟨h1, h2, h3⟩
      refine ⟨⟨h1, h2⟩, h3 0 d rfl, fun c hc => ?_⟩
      obtain ⟨j, hj, rfl⟩ := List.mem_iff_getElem.1 hc
      exact h3 (j + 1) r[j] (by simp [hj])
set_option maxHeartbeats 8000000 in
theorem rType_any (s : B) (hs : Sz s) (w : World) : Calls Tryz.prog 15 #[.string (sb s)] w fun e w' => e = .returned (.bool (typ s)) ∧ w' = w := by
  obtain ⟨S, hS⟩ : ∃ S, sb s = S := ⟨_, rfl⟩
  obtain ⟨n, hn⟩ : ∃ n, s.length = n := ⟨_, rfl⟩
  obtain ⟨R, hR⟩ : ∃ R, typ s = R := ⟨_, rfl⟩
  have hsz : (S.size : Int) = n := by rw [← hS, sb_size, hn]
  have hni : (n : Int) ≤ 140737488351232 := by have := hs; unfold Sz at this; omega
  have HS := hid hS; have HN := hid hn; have HR := hid hR
  rw [hS, hR]
  clear hS hn hR hs
  go_enter Tryz.func15, Tryz.ntmps15
  go_wp2_with fail
  go_loopw [3] (fun iv wr => ∃ (i : Nat), iv = .int .i64 i ∧ i ≤ n ∧ wr = w ∧ Hid (∀ j c, j < i → s[j]? = some c → okAt (j == 0) c = true)) (fun iv _ => n - (intOf iv).toNat)
  case atStart => exact ⟨0, rfl, Nat.zero_le _, rfl, hid fun j c hj _ => by omega⟩
  case round =>
    obtain ⟨i, rfl, hi, rfl, HA⟩ := hrel
    by_cases hlt : i < n
    · obtain ⟨c, hc⟩ : ∃ c, s[i]? = some c := ⟨_, List.getElem?_eq_getElem (by rw [HN.out]; exact hlt)⟩
      have hlti : (i : Int) < n := by omega
      have hi0 : (0 : Int) ≤ i := by omega
      have HC := hid hc
      have HLT := hid hlt
      have HOK := hid (ok_n c (i == 0))
      have HBAD : Hid (okAt (i == 0) c = false → R = false) := hid (fun h => by
        rw [← HR.out]
        cases ht : typ s with
        | false => rfl
        | true => rw [(typ_at.1 ht).2.2 i c HC.out] at h; cases h)
      have HGOOD : Hid (okAt (i == 0) c = true → ∀ j c, j < i + 1 → s[j]? = some c → okAt (j == 0) c = true) := hid (fun h j d hj hd => by
        by_cases hji : j = i
        · subst hji
          rw [HC.out] at hd
          obtain rfl := Option.some.inj hd
          exact h
        · exact HA.out j d (by omega) hd)
      obtain ⟨L, hL⟩ : ∃ L, isLet c = L := ⟨_, rfl⟩
      obtain ⟨D, hD⟩ : ∃ D, isDig c = D := ⟨_, rfl⟩
      have HLA := hid (letter_any c); have HDA := hid (digit_any c)
      rw [hL] at HLA HOK
      rw [hD] at HDA HOK
      obtain ⟨cn, hcn⟩ : ∃ cn, c.toNat = cn := ⟨_, rfl⟩
      have HCN := hid hcn
      rw [hcn] at HOK
      clear hlt hc hL hD hcn
      go_wp2_with (first
        | ((with_reducible refine K.atO (.index 9 _ _) ?_); refine wpL_valZ (by rfl) (.int .u8 (c.toNat : Int)) (exec_idxB _ _ rfl s HS.out i c HC.out _ rfl rfl rfl _) ?_)
        | fail)
      refine (HLA.out _).mono ?_
      rintro e w1 ⟨rfl, rfl⟩
      go_wp2_with (first
        | ((with_reducible refine K.atO (.index 9 _ _) ?_); refine wpL_valZ (by rfl) (.int .u8 (c.toNat : Int)) (exec_idxB _ _ rfl s HS.out i c HC.out _ rfl rfl rfl _) ?_)
        | fail)
      refine (HDA.out _).mono ?_
      rintro e w1 ⟨rfl, rfl⟩
      have hidx : ∀ w, (Instr.index 9 (.string S) (.int .i64 (i : Int))).run Tryz.prog w = .ok (.int .u8 (cn : Int)) w := fun w => by rw [← HS.out, ← HCN.out]; exact index_str s i c HC.out w
      have hcase : (i = 0 ∨ i ≠ 0) ∧ (cn = 45 ∨ cn ≠ 45) := ⟨by omega, by omega⟩
      cases L with
      | true =>
        go_wp2_with fail
        refine ⟨⟨i + 1, by go_num, HLT.out, trivial, hid (HGOOD.out (by rw [HOK.out]; rfl))⟩, ?_⟩
        have := HLT.out
        simp [intOf]; omega
      | false =>
        by_cases hi00 : i = 0
        · subst hi00
          obtain rfl := HBAD.out (by rw [HOK.out]; rfl)
          go_wp2_with fail
          go_ret
          exact ⟨rfl, rfl⟩
        · have hi1 : ¬ (i : Int) = 0 := by omega
          have hb : (i == 0) = false := by simp [hi00]
          cases D with
          | true =>
            go_wp2_with fail
            refine ⟨⟨i + 1, by go_num, HLT.out, trivial, hid (HGOOD.out (by rw [HOK.out, hb]; rfl))⟩, ?_⟩
            have := HLT.out
            simp [intOf]; omega
          | false =>
            by_cases h45 : cn = 45
            · subst h45
              go_wp2_with fail
              refine ⟨⟨i + 1, by go_num, HLT.out, trivial, hid (HGOOD.out (by rw [HOK.out, hb]; rfl))⟩, ?_⟩
              have := HLT.out
              simp [intOf]; omega
            · have h45i : ((cn : Int) != 45) = true := by simp; omega
              obtain rfl := HBAD.out (by rw [HOK.out, hb, decide_eq_false h45]; rfl)
              go_wp2_with fail
              go_ret
              exact ⟨rfl, rfl⟩
    · obtain rfl : i = n := by omega
      have hR : R = (decide (1 ≤ i) && decide (i ≤ 20)) := by
        rw [← HR.out, Bool.eq_iff_iff, typ_at, HN.out]
        simp only [Bool.and_eq_true, decide_eq_true_eq]
        constructor
        · rintro ⟨h1, h2, -⟩; exact ⟨h1, h2⟩
        · rintro ⟨h1, h2⟩
          exact ⟨h1, h2, fun j c hj => HA.out j c (by have := (List.getElem?_eq_some_iff.1 hj).1; rw [HN.out] at this; exact this) hj⟩
      by_cases h1 : 1 ≤ i
      · have h1i : (1 : Int) ≤ i := by omega
        by_cases h2 : i ≤ 20
        · have h2i : (i : Int) ≤ 20 := by omega
          rw [decide_eq_true h1, decide_eq_true h2] at hR
          subst hR
          clear hlt
          go_wp2_with fail
          go_ret
          exact ⟨rfl, rfl⟩
        · have h2i : ¬ (i : Int) ≤ 20 := by omega
          rw [decide_eq_true h1, decide_eq_false h2] at hR
          subst hR
          clear hlt
          go_wp2_with fail
          go_ret
          exact ⟨rfl, rfl⟩
      · have h1i : ¬ (1 : Int) ≤ i := by omega
        rw [decide_eq_false h1] at hR
        subst hR
        clear hlt
        go_wp2_with fail
        go_ret
        exact ⟨rfl, rfl⟩
end Go.Proofs.YtooodoacpdhbfaaGreatDoor.DN

namespace Go.Proofs.YtooodoacpdhbfaaGreatDoor.DN
set_option maxRecDepth 100000
open Go.RowKit K Go.Proofs.YtooodoacpdhbfaaGreatDoor.BE

def SP : B := [34, 43, 44, 59, 60, 62, 92, 35, 61, 32]
theorem sp_index (c : UInt8) : decide ((0 : Int) ≤ Lib.indexByte SP c) = (sign c || c == 35 || c == 61 || c == 32) := by
  have := u8_all (fun c => decide ((0 : Int) ≤ Lib.indexByte SP c) == (sign c || c == 35 || c == 61 || c == 32)) (by decide +kernel) c
  simpa using this
/-- What is told of an escape. -/
def escV (s : B) : Value := match esc s with
  | some x => .tuple #[.int .u8 (x.1.toNat : Int), .int .i64 (((s.length - x.2.length + 1 : Nat)) : Int)]
  | none => .tuple #[.int .u8 0, .int .i64 0]
theorem hexs_two (x y : UInt8) : hexs 0 [x, y] = (hexv x).bind fun a => (hexv y).bind fun b => some (16 * a.toNat + b.toNat) := by
  simp [hexs]
set_option maxHeartbeats 4000000 in
theorem escaped_any (s : B) (hs : Sz s) (w : World) (hG : Gl w) : Calls Tryz.prog 144 #[.string (sb s)] w fun e w' => e = .returned (escV s) ∧ Fr No w w' := by
  have HG := hid hG
  clear hG
  cases s with
  | nil =>
    have hv : escV [] = .tuple #[.int .u8 0, .int .i64 0] := rfl
    rw [hv]
    clear hs hv
    go_enter Tryz.func144, Tryz.ntmps144
    go_wp2_with (first | ((with_reducible refine K.atO (.binOp .neq 9 _ _ _) ?_); refine wpL_valZ rfl (.bool false) (by exact exec_neS _ _ _ rfl [] [] rfl rfl _) ?_) | fail)
    go_ret2
    exact ⟨rfl, Fr.refl _ _⟩
  | cons c r =>
    have hlen : ((sb (c :: r)).size : Int) = (r.length : Int) + 1 := by rw [sb_size]; simp
    have hrl : (r.length : Int) ≤ 140737488351232 := by unfold Sz at hs; simp at hs; omega
    have hne : (!decide ((c :: r : B) = [])) = true := rfl
    have HN := hid hne
    have HSP := hid (sp_index c)
    have HIX := hid (fun w => indexByte_any SP c w)
    cases hsg : (sign c || c == 35 || c == 61 || c == 32) with
    | true =>
      have HV : Hid (escV (c :: r) = .tuple #[.int .u8 (c.toNat : Int), .int .i64 2]) := hid (by
        have he : esc (c :: r) = some (c, r) := by
          show (if (sign c || c == 35 || c == 61 || c == 32) = true then _ else _) = _
          rw [hsg, if_pos rfl]
        unfold escV
        rw [he]
        simp)
      rw [HV.out]
      rw [hsg] at HSP
      have hi0 := of_decide_eq_true HSP.out
      obtain ⟨x, hx⟩ : ∃ x : Int, Lib.indexByte SP c = x := ⟨_, rfl⟩
      obtain ⟨S, hS⟩ : ∃ S, sb (c :: r) = S := ⟨_, rfl⟩
      have HS := hid hS
      rw [hx] at hi0 HIX
      rw [hS] at hlen ⊢
      clear hsg HSP HV hne hx hS hs
      go_enter Tryz.func144, Tryz.ntmps144
      go_wp2_with (first
        | ((with_reducible refine K.atO (.binOp .neq 9 _ _ _) ?_); refine wpL_valZ rfl (.bool true) (by rw [← HS.out]; exact exec_neS _ _ _ rfl (c :: r) [] rfl rfl _) ?_)
        | ((with_reducible refine K.atO (.index 9 _ _) ?_); refine wpL_valZ rfl (.int .u8 (c.toNat : Int)) (by rw [← HS.out]; exact exec_idx _ _ rfl (c :: r) 0 c rfl 0 rfl rfl rfl _) ?_)
        | fail)
      refine (HIX.out _).mono ?_
      rintro e w1 ⟨rfl, rfl⟩
      go_wp2_with (first
        | ((with_reducible refine K.atO (.index 9 _ _) ?_); refine wpL_valZ rfl (.int .u8 (c.toNat : Int)) (by rw [← HS.out]; exact exec_idx _ _ rfl (c :: r) 0 c rfl 0 rfl rfl rfl _) ?_)
        | fail)
      go_ret2
      exact ⟨rfl, Fr.refl _ _⟩
    | false =>
      have hec := esc_cons c r
      rw [hsg, if_neg (by decide)] at hec
      rw [hsg] at HSP
      have hi0 := of_decide_eq_false HSP.out
      obtain ⟨x, hx⟩ : ∃ x : Int, Lib.indexByte SP c = x := ⟨_, rfl⟩
      rw [hx] at hi0 HIX
      cases r with
      | nil =>
        have HV : Hid (escV [c] = .tuple #[.int .u8 0, .int .i64 0]) := hid (by unfold escV; rw [hec])
        rw [HV.out]
        obtain ⟨S, hS⟩ : ∃ S, sb [c] = S := ⟨_, rfl⟩
        have HS := hid hS
        rw [hS] at hlen ⊢
        have hl1 : (S.size : Int) = 1 := by rw [hlen]; rfl
        clear hsg HSP HV hne hx hS hs hec hlen hrl
        go_enter Tryz.func144, Tryz.ntmps144
        go_wp2_with (first
          | ((with_reducible refine K.atO (.binOp .neq 9 _ _ _) ?_); refine wpL_valZ rfl (.bool true) (by rw [← HS.out]; exact exec_neS _ _ _ rfl [c] [] rfl rfl _) ?_)
          | ((with_reducible refine K.atO (.index 9 _ _) ?_); refine wpL_valZ rfl (.int .u8 (c.toNat : Int)) (by rw [← HS.out]; exact exec_idx _ _ rfl [c] 0 c rfl 0 rfl rfl rfl _) ?_)
          | fail)
        refine (HIX.out _).mono ?_
        rintro e w1 ⟨rfl, rfl⟩
        go_wp2_with fail
        go_ret2
        exact ⟨rfl, Fr.refl _ _⟩
      | cons d r' =>
        have hec2 := hec
        dsimp only at hec2
        have HPU := hid (fun w (hG : Gl w) => parseUint_any c d w hG)
        have htk : (c :: d :: r').take 2 = [c, d] := rfl
        have hl2 : (2 : Int) ≤ ((r'.length : Int) + 1) + 1 := by omega
        have hrl2 : ((d :: r').length : Int) = (r'.length : Int) + 1 := by simp
        rw [hrl2] at hlen hrl
        have HL2 : Hid (2 ≤ (c :: d :: r').length) := hid (by simp)
        obtain ⟨rn, hrn⟩ : ∃ rn : Int, (r'.length : Int) = rn := ⟨_, rfl⟩
        rw [hrn] at hlen hrl hl2
        have hrn0 : 0 ≤ rn := by omega
        cases hq : hexs 0 [c, d] with
        | some n =>
          have hh := hexs_two c d
          rw [hq] at hh
          obtain ⟨xa, ha⟩ : ∃ xa, hexv c = some xa := by
            cases h : hexv c with
            | none => rw [h] at hh; cases hh
            | some x => exact ⟨x, rfl⟩
          obtain ⟨ya, hb⟩ : ∃ ya, hexv d = some ya := by
            cases h : hexv d with
            | none => rw [ha, h] at hh; cases hh
            | some x => exact ⟨x, rfl⟩
          rw [ha, hb] at hh hec2
          have hxl := hexv_lt ha
          have hyl := hexv_lt hb
          have hn : n = 16 * xa.toNat + ya.toNat := by simpa using hh
          have hby : ((16 * xa + ya : UInt8)).toNat = n := by rw [hn, UInt8.toNat_add, UInt8.toNat_mul]; simp; omega
          have HV : Hid (escV (c :: d :: r') = .tuple #[.int .u8 (n : Int), .int .i64 3]) := hid (by
            unfold escV; rw [hec2]
            show Value.tuple #[.int .u8 (((16 * xa + ya : UInt8)).toNat : Int), .int .i64 (((c :: d :: r').length - r'.length + 1 : Nat) : Int)] = _
            rw [hby]
            have : (c :: d :: r').length - r'.length + 1 = 3 := by simp; omega
            rw [this]; rfl)
          have hn1 : (n : Int) < 256 := by omega
          have hn0 : (0 : Int) ≤ n := by omega
          have hwr : IntKind.u8.wrap (n : Int) = n := by simp [IntKind.wrap, IntKind.bits, IntKind.signed]; omega
          have HWR := hid hwr
          rw [HV.out]
          have HTU : Hid (∀ e, ToldU [c, d] e → e = .returned (.tuple #[.int .u64 (n : Int), .nilIface])) := hid (fun e h => by unfold ToldU at h; rw [hq] at h; exact h)
          obtain ⟨S, hS⟩ : ∃ S, sb (c :: d :: r') = S := ⟨_, rfl⟩
          have HS := hid hS
          rw [hS] at hlen ⊢
          clear hsg HSP HV hne hx hS hs hec hec2 hrl2 hh ha hb hxl hyl hn hby hq htk hwr hrn
          go_enter Tryz.func144, Tryz.ntmps144
          go_wp2_with (first
            | ((with_reducible refine K.atO (.binOp .neq 9 _ _ _) ?_); refine wpL_valZ rfl (.bool true) (by rw [← HS.out]; exact exec_neS _ _ _ rfl (c :: d :: r') [] rfl rfl _) ?_)
            | ((with_reducible refine K.atO (.index 9 _ _) ?_); refine wpL_valZ rfl (.int .u8 (c.toNat : Int)) (by rw [← HS.out]; exact exec_idx _ _ rfl (c :: d :: r') 0 c rfl 0 rfl rfl rfl _) ?_)
            | fail)
          refine (HIX.out _).mono ?_
          rintro e w1 ⟨rfl, rfl⟩
          go_wp2_with (first
            | ((with_reducible refine K.atO (.slice 9 _ _ _ _) ?_); refine wpL_valZ rfl (.string (sb [c, d])) (by rw [← HS.out]; exact exec_to _ _ rfl (c :: d :: r') 2 rfl rfl HL2.out _ rfl _) ?_)
            | fail)
          refine (HPU.out _ HG.out).mono ?_
          rintro e w2 ⟨h2, f2⟩
          obtain rfl := HTU.out _ h2
          have HF2 := hid f2
          clear f2 h2
          go_wp2_with fail
          go_ret2
          refine ⟨?_, HF2.out⟩
          first
            | rfl
            | (show Ending.returned (.tuple #[.int .u8 (IntKind.u8.wrap (n : Int)), _]) = _; rw [HWR.out]; rfl)
        | none =>
          have hh := hexs_two c d
          rw [hq] at hh
          have he : esc (c :: d :: r') = none := by
            rw [hec2]
            cases h : hexv c with
            | none => rfl
            | some x =>
              cases h2 : hexv d with
              | none => rfl
              | some y => rw [h, h2] at hh; cases hh
          have HV : Hid (escV (c :: d :: r') = .tuple #[.int .u8 0, .int .i64 0]) := hid (by unfold escV; rw [he])
          rw [HV.out]
          have HTU : Hid (∀ e, ToldU [c, d] e → ∃ t u, e = .returned (.tuple #[.int .u64 0, .iface t u])) := hid (fun e h => by unfold ToldU at h; rw [hq] at h; exact h)
          obtain ⟨S, hS⟩ : ∃ S, sb (c :: d :: r') = S := ⟨_, rfl⟩
          have HS := hid hS
          rw [hS] at hlen ⊢
          clear hsg HSP HV hne hx hS hs hec hec2 hrl2 hh he hq htk hrn
          go_enter Tryz.func144, Tryz.ntmps144
          go_wp2_with (first
            | ((with_reducible refine K.atO (.binOp .neq 9 _ _ _) ?_); refine wpL_valZ rfl (.bool true) (by rw [← HS.out]; exact exec_neS _ _ _ rfl (c :: d :: r') [] rfl rfl _) ?_)
            | ((with_reducible refine K.atO (.index 9 _ _) ?_); refine wpL_valZ rfl (.int .u8 (c.toNat : Int)) (by rw [← HS.out]; exact exec_idx _ _ rfl (c :: d :: r') 0 c rfl 0 rfl rfl rfl _) ?_)
            | fail)
          refine (HIX.out _).mono ?_
          rintro e w1 ⟨rfl, rfl⟩
          go_wp2_with (first
            | ((with_reducible refine K.atO (.slice 9 _ _ _ _) ?_); refine wpL_valZ rfl (.string (sb [c, d])) (by rw [← HS.out]; exact exec_to _ _ rfl (c :: d :: r') 2 rfl rfl HL2.out _ rfl _) ?_)
            | fail)
          refine (HPU.out _ HG.out).mono ?_
          rintro e w2 ⟨h2, f2⟩
          obtain ⟨t, u, rfl⟩ := HTU.out _ h2
          have HF2 := hid f2
          clear f2 h2
          go_wp2_with fail
          go_ret2
          exact ⟨rfl, HF2.out⟩
end Go.Proofs.YtooodoacpdhbfaaGreatDoor.DN
