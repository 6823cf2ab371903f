/-
  Part 4 of the proof: ScI, DnW, DnSh, DnL.
-/
import Derived.Test.YtgbiicipkbpmeaaGreatDoorFe03
import Derived.Test.YtgbiicipkbpmeaaGreatDoorFe02
import Derived.Lib.FieldsP
import Derived.Laws.RangeAny
import Derived.Lib.SpaceUEq
import Derived.Lib.Join
import Derived.Shelf.Strings.Builder1
import Derived.Shelf.Strings.OnBuilder
import Derived.Shelf.Strings.FieldsFuncAny
import Derived.Test.YtgbiicipkbpmeaaGreatDoorChecked
import Derived.Test.YtgbiicipkbpmeaaGreatDoorFe01
set_option linter.unusedSimpArgs false
set_option linter.unusedVariables false
namespace Go.Proofs.YtgbiicipkbpmeaaGreatDoor.SC
set_option maxRecDepth 100000
set_option maxHeartbeats 128000000
open Go.RowKit K BE DN
def idxI {α : Type} (X : List α) (q : α → Bool) : Int := match X.findIdx? q with | some i => (i : Int) | none => -1
theorem idx_at {α : Type} {X : List α} {q : α → Bool} {i : Nat} {x : α} (h0 : (X.take i).any q = false) (hx : X[i]? = some x) (hq : q x = true) : idxI X q = i := by
 have : X.findIdx? q = some i := by
  obtain ⟨hl, e⟩ := List.getElem?_eq_some_iff.1 hx
  rw [List.findIdx?_eq_some_iff_getElem]
  refine ⟨hl, by rw [e]; exact hq, fun j hj => ?_⟩
  have h1 := List.any_eq_false.1 h0 X[j] (List.mem_take_iff_getElem.2 ⟨j, by omega, rfl⟩)
  exact h1
 unfold idxI
 rw [this]
theorem idx_none {α : Type} {X : List α} {q : α → Bool} (h0 : X.any q = false) : idxI X q = -1 := by
 have : X.findIdx? q = none := List.findIdx?_eq_none_iff.2 fun x hx => by
  have := List.any_eq_false.1 h0 x hx
  simpa using this
 unfold idxI
 rw [this]
theorem idx_any {α : Type} (X : List α) (q : α → Bool) : decide (0 ≤ idxI X q) = X.any q := by
 unfold idxI
 cases h : X.findIdx? q with
 | none =>
  rw [List.findIdx?_eq_none_iff] at h
  rw [List.any_eq_false.2 fun x hx => by rw [h x hx]; decide]
  rfl
 | some i =>
  rw [List.findIdx?_eq_some_iff_getElem] at h
  obtain ⟨hl, e, -⟩ := h
  rw [List.any_eq_true.2 ⟨_, List.getElem_mem hl, e⟩]
  simp
theorem indexTy {α : Type} (f : FuncId) (cap : List Value) (q : α → Bool) (p : World → α → List Value → Prop) (D : Nat → Prop) (I : World → Prop) (E : Nat → Prop) (v0 : Value) (X : List α) (w : World) (hp : ∀ w w' x c, p w x c → Fr D w w' → p w' x c) (hD : ∀ i, E i → i < w.heap.size → ¬ D i) (hI : I w)
  (h0 : Sl 6 (p w) E w v0 X) (hent : ∀ (vs : Array Value) (w : World), (callFunc f vs).run Tryz.prog w = .ok (.enter f vs) w)
  (hf : ∀ x ∈ X, ∀ c wv, p wv x c → I wv → Fr D w wv → Calls Tryz.prog f (Value.agg c.toArray :: cap).toArray wv fun e w' => e = .returned (.bool (q x)) ∧ I w' ∧ Fr D wv w') :
  Calls Tryz.prog 128 #[v0, .func (.func f) #[] cap.toArray] w fun e w' => e = .returned (.int .i64 (idxI X q)) ∧ I w' ∧ Fr D w w' := by
 obtain ⟨a, c, rfl, -, hl0⟩ := h0.form
 have HX0 := hid h0
 obtain ⟨n, hn⟩ : ∃ n, X.length = n := ⟨_, rfl⟩
 rw [hn] at HX0 hl0 ⊢
 have HNN := hid hn; have HP := hid hp; have HE := hid hent; have HF := hid hf; have HD := hid hD; have HI0 := hid hI
 obtain ⟨R, hR⟩ : ∃ R, idxI X q = R := ⟨_, rfl⟩
 rw [hR]
 have HR := hid hR
 have hni : (n : Int) ≤ 140737488351232 := by omega
 clear hp h0 hent hf hn hR hD hI
 go_enter Tryz.func128, Tryz.ntmps128
 go_wp2_with fail
 go_loopw [8] (fun iv wr => ∃ (i : Nat), iv = .int .i64 i ∧ i ≤ n ∧ Hid ((X.take i).any q = false ∧ I wr ∧ Fr D w wr)) (fun iv _ => n - (intOf iv).toNat)
 case atStart => exact ⟨0, rfl, Nat.zero_le _, hid ⟨rfl, HI0.out, Fr.refl _ _⟩⟩
 case round =>
  obtain ⟨i, rfl, hi, HI⟩ := hrel
  by_cases hlt : i < n
  ·have hiX : i < X.length := by rw [HNN.out]; exact hlt
   obtain ⟨x, hx⟩ : ∃ x, X[i]? = some x := ⟨_, List.getElem?_eq_getElem hiX⟩
   have HXM := hid (List.mem_of_getElem? hx)
   have HXX := hid hx
   have HNX : Hid ((X.take (i + 1)).any q = (q x || false)) := hid (by
    have hxx : X[i] = x := by rw [List.getElem?_eq_getElem hiX] at hx; exact Option.some.inj hx
    rw [List.take_succ_eq_append_getElem hiX, List.any_append, HI.out.1, hxx]; simp)
   have hlti : (i : Int) < n := by omega
   have hi0 : (0 : Int) ≤ i := by omega
   obtain ⟨g, o, cp, c, e1, hEg, hgw, hr, hc, hxa⟩ := (HX0.out.fr HI.out.2.2 HD.out (fun x c _ h => HP.out _ _ x c h HI.out.2.2)).get hx
   rw [HNN.out] at e1
   obtain ⟨rfl, rfl⟩ := K.sj e1
   have HXA := hid hxa; have HC := hid hc; have HRR := hid hr
   have HI3 : Hid ((Tryz.prog.info? 53).map (·.size) = some c.length) := hid (by rw [hc]; exact infoTy)
   clear hc hEg hgw hr hxa hx
   go_wp2_with (first
    | ((with_reducible refine K.atO (.load 53 _) ?_); refine wpL_load rfl _ _ rfl g (o + i * 6) rfl c _ HRR.out rfl rfl HI3.out ?_)
    | ((with_reducible refine K.atO (.call { callee := .value _, args := _, argTypes := _ }) ?_); refine wpL_callP rfl _ [_] _ rfl f cap rfl HE.out (Value.agg c.toArray :: cap) rfl ?_))
   refine (HF.out x HXM.out c wr HXA.out HI.out.2.1 HI.out.2.2).mono ?_
   rintro e w4 ⟨rfl, i4, f4⟩
   refine .inl ⟨_, rfl, ?_⟩
   have HF4 := hid (HI.out.2.2.trans' f4)
   have HI4 := hid i4
   have HLT := hid hlt
   clear f4 i4 hlt
   cases hq : q x with
   | true =>
    have HQ := hid hq
    clear hq
    go_wp2_with fail
    go_ret
    exact ⟨by rw [← HR.out, idx_at HI.out.1 HXX.out HQ.out]; rfl, HI4.out, HF4.out⟩
   | false =>
    have HQ := hid hq
    clear hq
    go_wp2_with fail
    go_roundw
    case rel => exact ⟨i + 1, by go_num, HLT.out, hid ⟨by rw [HNX.out, HQ.out]; rfl, HI4.out, HF4.out⟩⟩
    case measure => have := HLT.out; simp [intOf]; omega
  ·obtain rfl : i = n := by omega
   go_wp2_with fail
   go_ret
   refine ⟨?_, HI.out.2.1, HI.out.2.2⟩
   have h1 := HI.out.1
   rw [List.take_of_length_le (by rw [HNN.out]; exact Nat.le_refl _)] at h1
   rw [← HR.out, idx_none h1]
   rfl
theorem indexCl {α : Type} (f : FuncId) (cap : List Value) (q : α → Bool) (p : World → α → List Value → Prop) (D : Nat → Prop) (I : World → Prop) (E : Nat → Prop) (v0 : Value) (X : List α) (w : World) (hp : ∀ w w' x c, p w x c → Fr D w w' → p w' x c) (hD : ∀ i, E i → i < w.heap.size → ¬ D i) (hI : I w)
  (h0 : Sl 5 (p w) E w v0 X) (hent : ∀ (vs : Array Value) (w : World), (callFunc f vs).run Tryz.prog w = .ok (.enter f vs) w)
  (hf : ∀ x ∈ X, ∀ c wv, p wv x c → I wv → Fr D w wv → Calls Tryz.prog f (Value.agg c.toArray :: cap).toArray wv fun e w' => e = .returned (.bool (q x)) ∧ I w' ∧ Fr D wv w') :
  Calls Tryz.prog 167 #[v0, .func (.func f) #[] cap.toArray] w fun e w' => e = .returned (.int .i64 (idxI X q)) ∧ I w' ∧ Fr D w w' := by
 obtain ⟨a, c, rfl, -, hl0⟩ := h0.form
 have HX0 := hid h0
 obtain ⟨n, hn⟩ : ∃ n, X.length = n := ⟨_, rfl⟩
 rw [hn] at HX0 hl0 ⊢
 have HNN := hid hn; have HP := hid hp; have HE := hid hent; have HF := hid hf; have HD := hid hD; have HI0 := hid hI
 obtain ⟨R, hR⟩ : ∃ R, idxI X q = R := ⟨_, rfl⟩
 rw [hR]
 have HR := hid hR
 have hni : (n : Int) ≤ 140737488351232 := by omega
 clear hp h0 hent hf hn hR hD hI
 go_enter Tryz.func167, Tryz.ntmps167
 go_wp2_with fail
 go_loopw [8] (fun iv wr => ∃ (i : Nat), iv = .int .i64 i ∧ i ≤ n ∧ Hid ((X.take i).any q = false ∧ I wr ∧ Fr D w wr)) (fun iv _ => n - (intOf iv).toNat)
 case atStart => exact ⟨0, rfl, Nat.zero_le _, hid ⟨rfl, HI0.out, Fr.refl _ _⟩⟩
 case round =>
  obtain ⟨i, rfl, hi, HI⟩ := hrel
  by_cases hlt : i < n
  ·have hiX : i < X.length := by rw [HNN.out]; exact hlt
   obtain ⟨x, hx⟩ : ∃ x, X[i]? = some x := ⟨_, List.getElem?_eq_getElem hiX⟩
   have HXM := hid (List.mem_of_getElem? hx)
   have HXX := hid hx
   have HNX : Hid ((X.take (i + 1)).any q = (q x || false)) := hid (by
    have hxx : X[i] = x := by rw [List.getElem?_eq_getElem hiX] at hx; exact Option.some.inj hx
    rw [List.take_succ_eq_append_getElem hiX, List.any_append, HI.out.1, hxx]; simp)
   have hlti : (i : Int) < n := by omega
   have hi0 : (0 : Int) ≤ i := by omega
   obtain ⟨g, o, cp, c, e1, hEg, hgw, hr, hc, hxa⟩ := (HX0.out.fr HI.out.2.2 HD.out (fun x c _ h => HP.out _ _ x c h HI.out.2.2)).get hx
   rw [HNN.out] at e1
   obtain ⟨rfl, rfl⟩ := K.sj e1
   have HXA := hid hxa; have HC := hid hc; have HRR := hid hr
   have HI3 : Hid ((Tryz.prog.info? 55).map (·.size) = some c.length) := hid (by rw [hc]; exact infoCl)
   clear hc hEg hgw hr hxa hx
   go_wp2_with (first
    | ((with_reducible refine K.atO (.load 55 _) ?_); refine wpL_load rfl _ _ rfl g (o + i * 5) rfl c _ HRR.out rfl rfl HI3.out ?_)
    | ((with_reducible refine K.atO (.call { callee := .value _, args := _, argTypes := _ }) ?_); refine wpL_callP rfl _ [_] _ rfl f cap rfl HE.out (Value.agg c.toArray :: cap) rfl ?_))
   refine (HF.out x HXM.out c wr HXA.out HI.out.2.1 HI.out.2.2).mono ?_
   rintro e w4 ⟨rfl, i4, f4⟩
   refine .inl ⟨_, rfl, ?_⟩
   have HF4 := hid (HI.out.2.2.trans' f4)
   have HI4 := hid i4
   have HLT := hid hlt
   clear f4 i4 hlt
   cases hq : q x with
   | true =>
    have HQ := hid hq
    clear hq
    go_wp2_with fail
    go_ret
    exact ⟨by rw [← HR.out, idx_at HI.out.1 HXX.out HQ.out]; rfl, HI4.out, HF4.out⟩
   | false =>
    have HQ := hid hq
    clear hq
    go_wp2_with fail
    go_roundw
    case rel => exact ⟨i + 1, by go_num, HLT.out, hid ⟨by rw [HNX.out, HQ.out]; rfl, HI4.out, HF4.out⟩⟩
    case measure => have := HLT.out; simp [intOf]; omega
  ·obtain rfl : i = n := by omega
   go_wp2_with fail
   go_ret
   refine ⟨?_, HI.out.2.1, HI.out.2.2⟩
   have h1 := HI.out.1
   rw [List.take_of_length_le (by rw [HNN.out]; exact Nat.le_refl _)] at h1
   rw [← HR.out, idx_none h1]
   rfl
theorem indexAt {α : Type} (f : FuncId) (cap : List Value) (q : α → Bool) (p : World → α → List Value → Prop) (D : Nat → Prop) (I : World → Prop) (E : Nat → Prop) (v0 : Value) (X : List α) (w : World) (hp : ∀ w w' x c, p w x c → Fr D w w' → p w' x c) (hD : ∀ i, E i → i < w.heap.size → ¬ D i) (hI : I w)
  (h0 : Sl 2 (p w) E w v0 X) (hent : ∀ (vs : Array Value) (w : World), (callFunc f vs).run Tryz.prog w = .ok (.enter f vs) w)
  (hf : ∀ x ∈ X, ∀ c wv, p wv x c → I wv → Fr D w wv → Calls Tryz.prog f (Value.agg c.toArray :: cap).toArray wv fun e w' => e = .returned (.bool (q x)) ∧ I w' ∧ Fr D wv w') :
  Calls Tryz.prog 49 #[v0, .func (.func f) #[] cap.toArray] w fun e w' => e = .returned (.int .i64 (idxI X q)) ∧ I w' ∧ Fr D w w' := by
 obtain ⟨a, c, rfl, -, hl0⟩ := h0.form
 have HX0 := hid h0
 obtain ⟨n, hn⟩ : ∃ n, X.length = n := ⟨_, rfl⟩
 rw [hn] at HX0 hl0 ⊢
 have HNN := hid hn; have HP := hid hp; have HE := hid hent; have HF := hid hf; have HD := hid hD; have HI0 := hid hI
 obtain ⟨R, hR⟩ : ∃ R, idxI X q = R := ⟨_, rfl⟩
 rw [hR]
 have HR := hid hR
 have hni : (n : Int) ≤ 140737488351232 := by omega
 clear hp h0 hent hf hn hR hD hI
 go_enter Tryz.func49, Tryz.ntmps49
 go_wp2_with fail
 go_loopw [8] (fun iv wr => ∃ (i : Nat), iv = .int .i64 i ∧ i ≤ n ∧ Hid ((X.take i).any q = false ∧ I wr ∧ Fr D w wr)) (fun iv _ => n - (intOf iv).toNat)
 case atStart => exact ⟨0, rfl, Nat.zero_le _, hid ⟨rfl, HI0.out, Fr.refl _ _⟩⟩
 case round =>
  obtain ⟨i, rfl, hi, HI⟩ := hrel
  by_cases hlt : i < n
  ·have hiX : i < X.length := by rw [HNN.out]; exact hlt
   obtain ⟨x, hx⟩ : ∃ x, X[i]? = some x := ⟨_, List.getElem?_eq_getElem hiX⟩
   have HXM := hid (List.mem_of_getElem? hx)
   have HXX := hid hx
   have HNX : Hid ((X.take (i + 1)).any q = (q x || false)) := hid (by
    have hxx : X[i] = x := by rw [List.getElem?_eq_getElem hiX] at hx; exact Option.some.inj hx
    rw [List.take_succ_eq_append_getElem hiX, List.any_append, HI.out.1, hxx]; simp)
   have hlti : (i : Int) < n := by omega
   have hi0 : (0 : Int) ≤ i := by omega
   obtain ⟨g, o, cp, c, e1, hEg, hgw, hr, hc, hxa⟩ := (HX0.out.fr HI.out.2.2 HD.out (fun x c _ h => HP.out _ _ x c h HI.out.2.2)).get hx
   rw [HNN.out] at e1
   obtain ⟨rfl, rfl⟩ := K.sj e1
   have HXA := hid hxa; have HC := hid hc; have HRR := hid hr
   have HI3 : Hid ((Tryz.prog.info? 45).map (·.size) = some c.length) := hid (by rw [hc]; exact infoAt)
   clear hc hEg hgw hr hxa hx
   go_wp2_with (first
    | ((with_reducible refine K.atO (.load 45 _) ?_); refine wpL_load rfl _ _ rfl g (o + i * 2) rfl c _ HRR.out rfl rfl HI3.out ?_)
    | ((with_reducible refine K.atO (.call { callee := .value _, args := _, argTypes := _ }) ?_); refine wpL_callP rfl _ [_] _ rfl f cap rfl HE.out (Value.agg c.toArray :: cap) rfl ?_))
   refine (HF.out x HXM.out c wr HXA.out HI.out.2.1 HI.out.2.2).mono ?_
   rintro e w4 ⟨rfl, i4, f4⟩
   refine .inl ⟨_, rfl, ?_⟩
   have HF4 := hid (HI.out.2.2.trans' f4)
   have HI4 := hid i4
   have HLT := hid hlt
   clear f4 i4 hlt
   cases hq : q x with
   | true =>
    have HQ := hid hq
    clear hq
    go_wp2_with fail
    go_ret
    exact ⟨by rw [← HR.out, idx_at HI.out.1 HXX.out HQ.out]; rfl, HI4.out, HF4.out⟩
   | false =>
    have HQ := hid hq
    clear hq
    go_wp2_with fail
    go_roundw
    case rel => exact ⟨i + 1, by go_num, HLT.out, hid ⟨by rw [HNX.out, HQ.out]; rfl, HI4.out, HF4.out⟩⟩
    case measure => have := HLT.out; simp [intOf]; omega
  ·obtain rfl : i = n := by omega
   go_wp2_with fail
   go_ret
   refine ⟨?_, HI.out.2.1, HI.out.2.2⟩
   have h1 := HI.out.1
   rw [List.take_of_length_le (by rw [HNN.out]; exact Nat.le_refl _)] at h1
   rw [← HR.out, idx_none h1]
   rfl
theorem indexS {α : Type} (f : FuncId) (cap : List Value) (q : α → Bool) (p : World → α → Value → Prop) (D : Nat → Prop) (I : World → Prop) (E : Nat → Prop) (v0 : Value) (X : List α) (w : World) (hp : ∀ w w' x c, p w x c → Fr D w w' → p w' x c) (hD : ∀ i, E i → i < w.heap.size → ¬ D i) (hI : I w)
  (h0 : Sl 1 (fun x c => ∃ v, c = [v] ∧ p w x v) E w v0 X) (hent : ∀ (vs : Array Value) (w : World), (callFunc f vs).run Tryz.prog w = .ok (.enter f vs) w)
  (hf : ∀ x ∈ X, ∀ c wv, p wv x c → I wv → Fr D w wv → Calls Tryz.prog f (c :: cap).toArray wv fun e w' => e = .returned (.bool (q x)) ∧ I w' ∧ Fr D wv w') :
  Calls Tryz.prog 131 #[v0, .func (.func f) #[] cap.toArray] w fun e w' => e = .returned (.int .i64 (idxI X q)) ∧ I w' ∧ Fr D w w' := by
 obtain ⟨a, c, rfl, -, hl0⟩ := h0.form
 have HX0 := hid h0
 obtain ⟨n, hn⟩ : ∃ n, X.length = n := ⟨_, rfl⟩
 rw [hn] at HX0 hl0 ⊢
 have HNN := hid hn; have HP := hid hp; have HE := hid hent; have HF := hid hf; have HD := hid hD; have HI0 := hid hI
 obtain ⟨R, hR⟩ : ∃ R, idxI X q = R := ⟨_, rfl⟩
 rw [hR]
 have HR := hid hR
 have hni : (n : Int) ≤ 140737488351232 := by omega
 clear hp h0 hent hf hn hR hD hI
 go_enter Tryz.func131, Tryz.ntmps131
 go_wp2_with fail
 go_loopw [8] (fun iv wr => ∃ (i : Nat), iv = .int .i64 i ∧ i ≤ n ∧ Hid ((X.take i).any q = false ∧ I wr ∧ Fr D w wr)) (fun iv _ => n - (intOf iv).toNat)
 case atStart => exact ⟨0, rfl, Nat.zero_le _, hid ⟨rfl, HI0.out, Fr.refl _ _⟩⟩
 case round =>
  obtain ⟨i, rfl, hi, HI⟩ := hrel
  by_cases hlt : i < n
  ·have hiX : i < X.length := by rw [HNN.out]; exact hlt
   obtain ⟨x, hx⟩ : ∃ x, X[i]? = some x := ⟨_, List.getElem?_eq_getElem hiX⟩
   have HXM := hid (List.mem_of_getElem? hx)
   have HXX := hid hx
   have HNX : Hid ((X.take (i + 1)).any q = (q x || false)) := hid (by
    have hxx : X[i] = x := by rw [List.getElem?_eq_getElem hiX] at hx; exact Option.some.inj hx
    rw [List.take_succ_eq_append_getElem hiX, List.any_append, HI.out.1, hxx]; simp)
   have hlti : (i : Int) < n := by omega
   have hi0 : (0 : Int) ≤ i := by omega
   obtain ⟨g, o, cp, c, e1, hEg, hgw, hr, hc, hxa⟩ := (Sl.fr (p' := fun x c => ∃ v, c = [v] ∧ p wr x v) HX0.out HI.out.2.2 HD.out (fun x c _ h => ⟨h.choose, h.choose_spec.1, HP.out _ _ x _ h.choose_spec.2 HI.out.2.2⟩)).get hx
   rw [HNN.out] at e1
   obtain ⟨rfl, rfl⟩ := K.sj e1
   obtain ⟨c, rfl, hxa⟩ := hxa
   have hcell : wr.cell? ⟨g, o + i, none⟩ = some c := by have := hr 0 c rfl; simpa using this
   have HXA := hid hxa
   clear hc hEg hgw hr hxa hx
   go_wp2_with (first
    | ((with_reducible refine K.atO (.call { callee := .value _, args := _, argTypes := _ }) ?_); refine wpL_callP rfl _ [_] _ rfl f cap rfl HE.out (c :: cap) rfl ?_))
   refine (HF.out x HXM.out c wr HXA.out HI.out.2.1 HI.out.2.2).mono ?_
   rintro e w4 ⟨rfl, i4, f4⟩
   refine .inl ⟨_, rfl, ?_⟩
   have HF4 := hid (HI.out.2.2.trans' f4)
   have HI4 := hid i4
   have HLT := hid hlt
   clear f4 i4 hlt
   cases hq : q x with
   | true =>
    have HQ := hid hq
    clear hq
    go_wp2_with fail
    go_ret
    exact ⟨by rw [← HR.out, idx_at HI.out.1 HXX.out HQ.out]; rfl, HI4.out, HF4.out⟩
   | false =>
    have HQ := hid hq
    clear hq
    go_wp2_with fail
    go_roundw
    case rel => exact ⟨i + 1, by go_num, HLT.out, hid ⟨by rw [HNX.out, HQ.out]; rfl, HI4.out, HF4.out⟩⟩
    case measure => have := HLT.out; simp [intOf]; omega
  ·obtain rfl : i = n := by omega
   go_wp2_with fail
   go_ret
   refine ⟨?_, HI.out.2.1, HI.out.2.2⟩
   have h1 := HI.out.1
   rw [List.take_of_length_le (by rw [HNN.out]; exact Nat.le_refl _)] at h1
   rw [← HR.out, idx_none h1]
   rfl
theorem containsS {α : Type} (f : FuncId) (cap : List Value) (q : α → Bool) (p : World → α → Value → Prop) (D : Nat → Prop) (I : World → Prop) (E : Nat → Prop) (v0 : Value) (X : List α) (w : World) (hp : ∀ w w' x c, p w x c → Fr D w w' → p w' x c) (hD : ∀ i, E i → i < w.heap.size → ¬ D i) (hI : I w)
  (h0 : Sl 1 (fun x c => ∃ v, c = [v] ∧ p w x v) E w v0 X) (hent : ∀ (vs : Array Value) (w : World), (callFunc f vs).run Tryz.prog w = .ok (.enter f vs) w)
  (hf : ∀ x ∈ X, ∀ c wv, p wv x c → I wv → Fr D w wv → Calls Tryz.prog f (c :: cap).toArray wv fun e w' => e = .returned (.bool (q x)) ∧ I w' ∧ Fr D wv w') :
  Calls Tryz.prog 84 #[v0, .func (.func f) #[] cap.toArray] w fun e w' => e = .returned (.bool (X.any q)) ∧ I w' ∧ Fr D w w' := by
 have H := hid (indexS f cap q p D I E v0 X w hp hD hI h0 hent hf)
 obtain ⟨a, c, rfl, -, -⟩ := h0.form
 obtain ⟨R, hR⟩ : ∃ R, X.any q = R := ⟨_, rfl⟩
 obtain ⟨m, hm⟩ : ∃ m, idxI X q = m := ⟨_, rfl⟩
 have HM : Hid (decide (0 ≤ m) = R) := hid (by rw [← hm, ← hR]; exact idx_any X q)
 obtain ⟨n, hn⟩ : ∃ n, X.length = n := ⟨_, rfl⟩
 rw [hm, hn] at H
 rw [hR, hn]
 clear hp h0 hent hf hR hn hm hD hI
 go_enter Tryz.func84, Tryz.ntmps84
 go_wp2_with fail
 refine H.out.mono ?_
 rintro e w2 ⟨rfl, i2, f2⟩
 have HF := hid f2; have HI2 := hid i2
 clear f2 i2
 go_wp2_with fail
 go_ret
 exact ⟨by rw [← HM.out]; rfl, HI2.out, HF.out⟩
theorem indexN {α : Type} (f : FuncId) (cap : List Value) (q : α → Bool) (p : World → α → Value → Prop) (D : Nat → Prop) (I : World → Prop) (E : Nat → Prop) (v0 : Value) (X : List α) (w : World) (hp : ∀ w w' x c, p w x c → Fr D w w' → p w' x c) (hD : ∀ i, E i → i < w.heap.size → ¬ D i) (hI : I w)
  (h0 : Sl 1 (fun x c => ∃ v, c = [v] ∧ p w x v) E w v0 X) (hent : ∀ (vs : Array Value) (w : World), (callFunc f vs).run Tryz.prog w = .ok (.enter f vs) w)
  (hf : ∀ x ∈ X, ∀ c wv, p wv x c → I wv → Fr D w wv → Calls Tryz.prog f (c :: cap).toArray wv fun e w' => e = .returned (.bool (q x)) ∧ I w' ∧ Fr D wv w') :
  Calls Tryz.prog 85 #[v0, .func (.func f) #[] cap.toArray] w fun e w' => e = .returned (.int .i64 (idxI X q)) ∧ I w' ∧ Fr D w w' := by
 obtain ⟨a, c, rfl, -, hl0⟩ := h0.form
 have HX0 := hid h0
 obtain ⟨n, hn⟩ : ∃ n, X.length = n := ⟨_, rfl⟩
 rw [hn] at HX0 hl0 ⊢
 have HNN := hid hn; have HP := hid hp; have HE := hid hent; have HF := hid hf; have HD := hid hD; have HI0 := hid hI
 obtain ⟨R, hR⟩ : ∃ R, idxI X q = R := ⟨_, rfl⟩
 rw [hR]
 have HR := hid hR
 have hni : (n : Int) ≤ 140737488351232 := by omega
 clear hp h0 hent hf hn hR hD hI
 go_enter Tryz.func85, Tryz.ntmps85
 go_wp2_with fail
 go_loopw [8] (fun iv wr => ∃ (i : Nat), iv = .int .i64 i ∧ i ≤ n ∧ Hid ((X.take i).any q = false ∧ I wr ∧ Fr D w wr)) (fun iv _ => n - (intOf iv).toNat)
 case atStart => exact ⟨0, rfl, Nat.zero_le _, hid ⟨rfl, HI0.out, Fr.refl _ _⟩⟩
 case round =>
  obtain ⟨i, rfl, hi, HI⟩ := hrel
  by_cases hlt : i < n
  ·have hiX : i < X.length := by rw [HNN.out]; exact hlt
   obtain ⟨x, hx⟩ : ∃ x, X[i]? = some x := ⟨_, List.getElem?_eq_getElem hiX⟩
   have HXM := hid (List.mem_of_getElem? hx)
   have HXX := hid hx
   have HNX : Hid ((X.take (i + 1)).any q = (q x || false)) := hid (by
    have hxx : X[i] = x := by rw [List.getElem?_eq_getElem hiX] at hx; exact Option.some.inj hx
    rw [List.take_succ_eq_append_getElem hiX, List.any_append, HI.out.1, hxx]; simp)
   have hlti : (i : Int) < n := by omega
   have hi0 : (0 : Int) ≤ i := by omega
   obtain ⟨g, o, cp, c, e1, hEg, hgw, hr, hc, hxa⟩ := (Sl.fr (p' := fun x c => ∃ v, c = [v] ∧ p wr x v) HX0.out HI.out.2.2 HD.out (fun x c _ h => ⟨h.choose, h.choose_spec.1, HP.out _ _ x _ h.choose_spec.2 HI.out.2.2⟩)).get hx
   rw [HNN.out] at e1
   obtain ⟨rfl, rfl⟩ := K.sj e1
   obtain ⟨c, rfl, hxa⟩ := hxa
   have hcell : wr.cell? ⟨g, o + i, none⟩ = some c := by have := hr 0 c rfl; simpa using this
   have HXA := hid hxa
   clear hc hEg hgw hr hxa hx
   go_wp2_with (first
    | ((with_reducible refine K.atO (.call { callee := .value _, args := _, argTypes := _ }) ?_); refine wpL_callP rfl _ [_] _ rfl f cap rfl HE.out (c :: cap) rfl ?_))
   refine (HF.out x HXM.out c wr HXA.out HI.out.2.1 HI.out.2.2).mono ?_
   rintro e w4 ⟨rfl, i4, f4⟩
   refine .inl ⟨_, rfl, ?_⟩
   have HF4 := hid (HI.out.2.2.trans' f4)
   have HI4 := hid i4
   have HLT := hid hlt
   clear f4 i4 hlt
   cases hq : q x with
   | true =>
    have HQ := hid hq
    clear hq
    go_wp2_with fail
    go_ret
    exact ⟨by rw [← HR.out, idx_at HI.out.1 HXX.out HQ.out]; rfl, HI4.out, HF4.out⟩
   | false =>
    have HQ := hid hq
    clear hq
    go_wp2_with fail
    go_roundw
    case rel => exact ⟨i + 1, by go_num, HLT.out, hid ⟨by rw [HNX.out, HQ.out]; rfl, HI4.out, HF4.out⟩⟩
    case measure => have := HLT.out; simp [intOf]; omega
  ·obtain rfl : i = n := by omega
   go_wp2_with fail
   go_ret
   refine ⟨?_, HI.out.2.1, HI.out.2.2⟩
   have h1 := HI.out.1
   rw [List.take_of_length_le (by rw [HNN.out]; exact Nat.le_refl _)] at h1
   rw [← HR.out, idx_none h1]
   rfl
theorem containsN {α : Type} (f : FuncId) (cap : List Value) (q : α → Bool) (p : World → α → Value → Prop) (D : Nat → Prop) (I : World → Prop) (E : Nat → Prop) (v0 : Value) (X : List α) (w : World) (hp : ∀ w w' x c, p w x c → Fr D w w' → p w' x c) (hD : ∀ i, E i → i < w.heap.size → ¬ D i) (hI : I w)
  (h0 : Sl 1 (fun x c => ∃ v, c = [v] ∧ p w x v) E w v0 X) (hent : ∀ (vs : Array Value) (w : World), (callFunc f vs).run Tryz.prog w = .ok (.enter f vs) w)
  (hf : ∀ x ∈ X, ∀ c wv, p wv x c → I wv → Fr D w wv → Calls Tryz.prog f (c :: cap).toArray wv fun e w' => e = .returned (.bool (q x)) ∧ I w' ∧ Fr D wv w') :
  Calls Tryz.prog 51 #[v0, .func (.func f) #[] cap.toArray] w fun e w' => e = .returned (.bool (X.any q)) ∧ I w' ∧ Fr D w w' := by
 have H := hid (indexN f cap q p D I E v0 X w hp hD hI h0 hent hf)
 obtain ⟨a, c, rfl, -, -⟩ := h0.form
 obtain ⟨R, hR⟩ : ∃ R, X.any q = R := ⟨_, rfl⟩
 obtain ⟨m, hm⟩ : ∃ m, idxI X q = m := ⟨_, rfl⟩
 have HM : Hid (decide (0 ≤ m) = R) := hid (by rw [← hm, ← hR]; exact idx_any X q)
 obtain ⟨n, hn⟩ : ∃ n, X.length = n := ⟨_, rfl⟩
 rw [hm, hn] at H
 rw [hR, hn]
 clear hp h0 hent hf hR hn hm hD hI
 go_enter Tryz.func51, Tryz.ntmps51
 go_wp2_with fail
 refine H.out.mono ?_
 rintro e w2 ⟨rfl, i2, f2⟩
 have HF := hid f2; have HI2 := hid i2
 clear f2 i2
 go_wp2_with fail
 go_ret
 exact ⟨by rw [← HM.out]; rfl, HI2.out, HF.out⟩
end Go.Proofs.YtgbiicipkbpmeaaGreatDoor.SC
namespace Go.Proofs.YtgbiicipkbpmeaaGreatDoor.DN
set_option maxRecDepth 100000
open BE Go.Lib
theorem extract_piece (s : ByteArray) (a b : Nat) : (s.extract a b).data.toList = pieceU s.data.toList a b := by
 unfold pieceU
 rw [ByteArray.data_extract, Array.toList_extract, List.extract_eq_take_drop]
theorem dec_facts (s : ByteArray) (pos : Nat) (h : pos < s.size) : 1 ≤ (Utf8.decode s pos).2 ∧ pos + (Utf8.decode s pos).2 ≤ s.size ∧ ((Utf8.decode s pos).1 = 32 → s.data.toList[pos]? = some 32 ∧ (Utf8.decode s pos).2 = 1) ∧
  ((Utf8.decode s pos).1 ≠ 32 → ∀ c ∈ (s.data.toList.drop pos).take (Utf8.decode s pos).2, c ≠ 32) := by
 have hl : s.data.toList.length = s.size := by simp
 have hw := width_pos s pos
 have hN := decode_N s pos
 have hle := decodeN_le_n' (s.data.toList.length - pos) (s.data.toList.getD pos 0).toNat (s.data.toList.getD (pos + 1) 0).toNat (s.data.toList.getD (pos + 2) 0).toNat (s.data.toList.getD (pos + 3) 0).toNat (by omega)
 have hc := decodeN_conts (s.data.toList.length - pos) (s.data.toList.getD pos 0).toNat (s.data.toList.getD (pos + 1) 0).toNat (s.data.toList.getD (pos + 2) 0).toNat (s.data.toList.getD (pos + 3) 0).toNat
 rw [← hN] at hle hc
 have hget : s.data.toList[pos]? = some (s.data.toList.getD pos 0) := by
  rw [List.getD_eq_getElem?_getD, List.getElem?_eq_getElem (by omega)]; rfl
 have hsp : s[pos]'h = s.data.toList.getD pos 0 := by
  rw [List.getD_eq_getElem?_getD, List.getElem?_eq_getElem (by omega)]
  rfl
 refine ⟨hw, by omega, ?_, ?_⟩
 ·intro h32
  by_cases hb : (s.data.toList.getD pos 0).toNat < 128
  ·rw [decodeN_ascii _ _ _ _ _ hb] at hN
   rw [hN] at h32 ⊢
   have : s.data.toList.getD pos 0 = 32 := UInt8.toNat_inj.1 h32
   rw [hget, this]
   exact ⟨rfl, rfl⟩
  ·have := (decode_high s pos h (by rw [hsp]; omega)).1
   omega
 ·intro h32 c hcm
  obtain ⟨j, hj⟩ := List.mem_iff_getElem?.1 hcm
  have hjk : j < (Utf8.decode s pos).2 := by
   have := (List.getElem?_eq_some_iff.1 hj).1
   rw [List.length_take] at this
   omega
  rw [List.getElem?_take, if_pos hjk, List.getElem?_drop] at hj
  have hd : s.data.toList.getD (pos + j) 0 = c := by rw [List.getD_eq_getElem?_getD, hj]; rfl
  intro e
  subst e
  obtain ⟨c1, c2, c3, c4⟩ := hc
  have h3 : j = 0 ∨ j = 1 ∨ j = 2 ∨ j = 3 := by omega
  rcases h3 with rfl | rfl | rfl | rfl
  ·rw [Nat.add_zero] at hd
   rw [hd] at hN
   rw [decodeN_ascii _ _ _ _ _ (by decide)] at hN
   rw [hN] at h32
   exact h32 rfl
  ·have := (c1 (by omega)).1
   rw [hd] at this
   exact absurd this (by decide)
  ·have := (c2 (by omega)).1
   rw [hd] at this
   exact absurd this (by decide)
  ·have := (c3 (by omega)).1
   rw [hd] at this
   exact absurd this (by decide)
theorem words_end (cur : B) : words cur [] = if cur.isEmpty then [] else [cur] := rfl
theorem words_sp (cur r : B) : words cur (32 :: r) = if cur.isEmpty then words [] r else cur :: words [] r := rfl
theorem close_words (s : ByteArray) (st : Option Nat) (acc : List (Nat × Nat)) (hst : ∀ a, st = some a → a < s.size) :
  (closeSpans s (acc, st)).map (fun x => pieceU s.data.toList x.1 x.2) = acc.map (fun x => pieceU s.data.toList x.1 x.2) ++ words (openPiece s.data.toList st s.size) [] := by
 have hl : s.data.toList.length = s.size := by simp
 cases st with
 | none => simp [closeSpans, openPiece, words_end]
 | some a =>
  have hne := pieceU_ne s.data.toList a s.size (hst a rfl) (by omega)
  rw [words_end]
  show _ = _ ++ if (pieceU s.data.toList a s.size).isEmpty = true then [] else [pieceU s.data.toList a s.size]
  rw [if_neg (by rw [List.isEmpty_iff]; exact hne)]
  simp [closeSpans]
theorem spans_words (s : ByteArray) : ∀ (f pos : Nat) (st : Option Nat) (acc : List (Nat × Nat)), s.size ≤ pos + f → pos ≤ s.size → (∀ a, st = some a → a < pos) →
  (closeSpans s (spansFromP (fun x => x == 32) s f pos st acc)).map (fun x => pieceU s.data.toList x.1 x.2) = acc.map (fun x => pieceU s.data.toList x.1 x.2) ++ words (openPiece s.data.toList st pos) (s.data.toList.drop pos)
 | 0, pos, st, acc, hf, hp, hst => by
  have hl : s.data.toList.length = s.size := by simp
  obtain rfl : pos = s.size := by omega
  rw [List.drop_of_length_le (by omega)]
  exact close_words s st acc hst
 | f + 1, pos, st, acc, hf, hp, hst => by
  have hl : s.data.toList.length = s.size := by simp
  by_cases hlt : pos < s.size
  ·obtain ⟨h1, h2, h3, h4⟩ := dec_facts s pos hlt
   unfold spansFromP
   rw [if_pos hlt]
   by_cases h32 : (Utf8.decode s pos).1 = 32
   ·obtain ⟨hb, hk⟩ := h3 h32
    have hdrop : s.data.toList.drop pos = 32 :: s.data.toList.drop (pos + 1) := by
     rw [List.drop_eq_getElem_cons (by omega)]
     rw [List.getElem?_eq_getElem (by omega)] at hb
     rw [Option.some.inj hb]
    rw [h32, if_pos (by decide), hk, hdrop, words_sp]
    cases st with
    | none =>
     simp only
     rw [spans_words s f (pos + 1) none acc (by omega) (by omega) (fun a h => by cases h)]
     rfl
    | some a =>
     have hne := pieceU_ne s.data.toList a pos (hst a rfl) (by omega)
     simp only
     rw [spans_words s f (pos + 1) none (acc ++ [(a, pos)]) (by omega) (by omega) (fun a h => by cases h)]
     show _ = _ ++ if (pieceU s.data.toList a pos).isEmpty = true then _ else pieceU s.data.toList a pos :: _
     rw [if_neg (by rw [List.isEmpty_iff]; exact hne)]
     simp [openPiece]
   ·have hr : words (openPiece s.data.toList st pos) (s.data.toList.drop pos) = words (openPiece s.data.toList st pos ++ (s.data.toList.drop pos).take (Utf8.decode s pos).2) (s.data.toList.drop (pos + (Utf8.decode s pos).2)) := by
     rw [← List.drop_drop, ← words_run _ _ _ (h4 h32), List.take_append_drop]
    rw [if_neg (by simp [h32]), hr]
    cases st with
    | none =>
     simp only
     rw [spans_words s f _ (some pos) acc (by omega) (by omega) (fun a h => by cases h; omega)]
     simp only [openPiece, List.nil_append, pieceU, Nat.add_sub_cancel_left]
    | some a =>
     have := hst a rfl
     simp only
     rw [spans_words s f _ (some a) acc (by omega) (by omega) (fun b h => by cases h; omega)]
     simp only [openPiece]
     rw [pieceU_grow _ _ _ _ (by omega)]
  ·obtain rfl : pos = s.size := by omega
   rw [spansFromP_end _ _ _ _ _ _ hlt, List.drop_of_length_le (by omega)]
   exact close_words s st acc hst
theorem fields_words (s : ByteArray) : (goFieldsP (fun x => x == 32) s).map (·.data.toList) = words [] s.data.toList := by
 have h := spans_words s s.size 0 none [] (by omega) (by omega) (fun a h => by cases h)
 unfold goFieldsP spansOfP
 rw [List.map_map]
 have e : ((fun x : ByteArray => x.data.toList) ∘ fun x : Nat × Nat => s.extract x.1 x.2) = fun x => pieceU s.data.toList x.1 x.2 := by
  funext x
  exact extract_piece s x.1 x.2
 rw [e, h]
 rfl
theorem joinB_eq (sep : B) : ∀ L : List B, Lib.join L sep = joinB sep L
 | [] => rfl
 | [a] => by rw [Lib.join_one]; rfl
 | a :: b :: r => by
  have ih := joinB_eq sep (b :: r)
  rw [Lib.join_cons] at ih ⊢
  simp only [joinB]
  rw [← ih]
  simp [Lib.joinTail]
end Go.Proofs.YtgbiicipkbpmeaaGreatDoor.DN
namespace Go.Proofs.YtgbiicipkbpmeaaGreatDoor.DN
set_option maxRecDepth 100000
open Go.Shelf Go.RowKit K BE
def lays156_ren : Go.Shelf.Ren := ⟨fun | 167 => 121 | 156 => 114 | 165 => 150 | 166 => 119 | 169 => 122 | 240 => 156 | 241 => 187 | 276 => 194 | 277 => 220 | n => n, fun | 31 => 37 | 9 => 9 | 3 => 3 | 4 => 4 | 0 => 0 | 20 => 20 | 72 => 170 | 76 => 135 | 70 => 168 | 37 => 150 | 75 => 134 | 127 => 212 | 164 => 240 | 5 => 5 | 80 => 179 | n => n, fun | n => n⟩
theorem lays156 : Go.Proofs.Lays.n156 Tryz.prog lays156_ren := {
 mixed := by kernel_rfl
 f156 := Tryz.func114.trans (congrArg some (by kernel_rfl))
 f165 := Tryz.func150.trans (congrArg some (by kernel_rfl))
 f166 := Tryz.func119.trans (congrArg some (by kernel_rfl))
 f169 := Tryz.func122.trans (congrArg some (by kernel_rfl))
 f240 := Tryz.func156.trans (congrArg some (by kernel_rfl))
 f241 := Tryz.func187.trans (congrArg some (by kernel_rfl))
 f276 := Tryz.func194.trans (congrArg some (by kernel_rfl))
 f277 := Tryz.func220.trans (congrArg some (by kernel_rfl))
 t0 := Tryz.underlying0
 a0 := Tryz.isAgg0
 z0 := Tryz.sizeOf0
 v0 := Tryz.zeroValue0
 t3 := Tryz.underlying3
 a3 := Tryz.isAgg3
 z3 := Tryz.sizeOf3
 v3 := Tryz.zeroValue3
 t4 := Tryz.underlying4
 a4 := Tryz.isAgg4
 z4 := Tryz.sizeOf4
 v4 := Tryz.zeroValue4
 t9 := Tryz.underlying9
 a9 := Tryz.isAgg9
 z9 := Tryz.sizeOf9
 v9 := Tryz.zeroValue9
 t20 := Tryz.underlying20
 a20 := Tryz.isAgg20
 z20 := Tryz.sizeOf20
 v20 := Tryz.zeroValue20
 t31 := Tryz.underlying37
 a31 := Tryz.isAgg37
 z31 := Tryz.sizeOf37
 v31 := Tryz.zeroValue37
 t37 := Tryz.underlying150
 a37 := Tryz.isAgg150
 z37 := Tryz.sizeOf150
 v37 := Tryz.zeroValue150
 t70 := Tryz.underlying168
 a70 := Tryz.isAgg168
 z70 := Tryz.sizeOf168
 v70 := Tryz.zeroValue168
 t72 := Tryz.underlying170
 a72 := Tryz.isAgg170
 z72 := Tryz.sizeOf170
 v72 := Tryz.zeroValue170
 t75 := Tryz.underlying134
 a75 := Tryz.isAgg134
 z75 := Tryz.sizeOf134
 v75 := Tryz.zeroValue134
 t76 := Tryz.underlying135
 a76 := Tryz.isAgg135
 z76 := Tryz.sizeOf135
 v76 := Tryz.zeroValue135
 t127 := Tryz.underlying212
 a127 := Tryz.isAgg212
 z127 := Tryz.sizeOf212
 v127 := Tryz.zeroValue212
 t164 := Tryz.underlying240
 a164 := Tryz.isAgg240
 z164 := Tryz.sizeOf240
 v164 := Tryz.zeroValue240 }
def lays229_ren : Go.Shelf.Ren := ⟨fun | 229 => 111 | n => n, fun | 9 => 9 | 40 => 163 | 31 => 37 | 152 => 200 | 3 => 3 | 0 => 0 | 4 => 4 | 21 => 21 | 154 => 202 | n => n, fun | n => n⟩
theorem lays229 : Go.Proofs.Lays.n229 Tryz.prog lays229_ren := {
 mixed := by kernel_rfl
 f229 := Tryz.func111.trans (congrArg some (by kernel_rfl))
 t0 := Tryz.underlying0
 a0 := Tryz.isAgg0
 z0 := Tryz.sizeOf0
 v0 := Tryz.zeroValue0
 t3 := Tryz.underlying3
 a3 := Tryz.isAgg3
 z3 := Tryz.sizeOf3
 v3 := Tryz.zeroValue3
 t4 := Tryz.underlying4
 a4 := Tryz.isAgg4
 z4 := Tryz.sizeOf4
 v4 := Tryz.zeroValue4
 t9 := Tryz.underlying9
 a9 := Tryz.isAgg9
 z9 := Tryz.sizeOf9
 v9 := Tryz.zeroValue9
 t21 := Tryz.underlying21
 a21 := Tryz.isAgg21
 z21 := Tryz.sizeOf21
 v21 := Tryz.zeroValue21
 t31 := Tryz.underlying37
 a31 := Tryz.isAgg37
 z31 := Tryz.sizeOf37
 v31 := Tryz.zeroValue37
 t40 := Tryz.underlying163
 a40 := Tryz.isAgg163
 z40 := Tryz.sizeOf163
 v40 := Tryz.zeroValue163
 t152 := Tryz.underlying200
 a152 := Tryz.isAgg200
 z152 := Tryz.sizeOf200
 v152 := Tryz.zeroValue200
 t154 := Tryz.underlying202
 a154 := Tryz.isAgg202
 z154 := Tryz.sizeOf202
 v154 := Tryz.zeroValue202 }
theorem extra156 : Builder.Extra Tryz.prog lays156_ren := {
 sizeBuilder := by kernel_rfl
 liesBuilder := by kernel_rfl
 t5 := Tryz.underlying5
 a5 := Tryz.isAgg5
 z5 := Tryz.sizeOf5
 v5 := Tryz.zeroValue5
 infoByte := by kernel_rfl
 cellsByte := by kernel_rfl
 sizeByte := by kernel_rfl
 neB5 := by decide }
theorem below_fr {w w' : World} (h : Go.RowKit.Below w.heap.size w w') : Fr No w w' := ⟨h.os, h.tape, h.output, h.size, fun k hk _ => h.block k hk⟩
theorem join_any (E : Nat → Prop) (v : Value) (L : List B) (sep : B) (w : World) (h : ∃ a cap, v = .slice a L.length cap ∧ L.length ≤ cap ∧ (L = [] ∨ ∃ g o, a = some ⟨g, o, none⟩ ∧ g < w.heap.size ∧ w.rangeAt g o (strs L))) (hL : L.length ≤ 140737488355328) (hl : (joinB sep L).length ≤ 140737488355328) :
  Calls Tryz.prog 114 #[v, .string (sb sep)] w fun e w' => e = .returned (.string (sb (joinB sep L))) ∧ Fr No w w' := by
 obtain ⟨a, cap, rfl, hc, h⟩ := h
 rcases h with rfl | ⟨g, o, rfl, hg, hr⟩
 ·refine (Any.strings_Join_none lays156 extra156 a cap (sb sep) w).mono ?_
  rintro e w' ⟨rfl, rfl⟩
  exact ⟨rfl, Fr.refl _ _⟩
 ·have hj : Lib.join ((L.map sb).map (·.data.toList)) (sb sep).data.toList = joinB sep L := by
   rw [sb_list, joinB_eq, List.map_map]
   congr 1
   conv => rhs; rw [← List.map_id L]
   exact List.map_congr_left fun x _ => sb_list x
  have h1 := Any.strings_Join lays156 extra156 g o cap (L.map sb) (sb sep) w (fun j x hx => by
   rw [List.getElem?_map] at hx
   obtain ⟨l, hl, rfl⟩ := Option.map_eq_some_iff.1 hx
   exact hr j _ (by unfold strs; rw [List.getElem?_map, hl]; rfl)) hg (by rw [List.length_map]; exact hL) (by rw [List.length_map]; exact hc) (by rw [hj]; exact hl)
  rw [List.length_map, hj] at h1
  refine h1.mono ?_
  rintro e w' ⟨rfl, hb⟩
  exact ⟨rfl, below_fr hb⟩
theorem fields_any (g : Nat) (eg : ∀ args w, (callFunc g args).run Tryz.prog w = .ok (.enter g args) w) (s : B) (w : World) (hs : s.length ≤ 4294967296)
  (hp : ∀ (W : World) (x : Nat), x ≤ 1114111 → Calls Tryz.prog g #[.int .i32 (x : Int)] W fun e W' => e = .returned (.bool (x == 32)) ∧ W' = W) :
  Calls Tryz.prog 111 #[.string (sb s), .func (.func g) #[] #[]] w fun e w' => ∃ v, e = .returned v ∧ (∃ a cap, v = .slice a (words [] s).length cap ∧ (words [] s).length ≤ cap ∧ (words [] s = [] ∨ ∃ g o, a = some ⟨g, o, none⟩ ∧ g < w'.heap.size ∧ w'.rangeAt g o (strs (words [] s)))) ∧ Fr No w w' := by
 have hL : Lib.goFieldsP (fun x => x == 32) (sb s) = (words [] s).map sb := by
  have h := fields_words (sb s)
  rw [sb_list] at h
  rw [← h, List.map_map]
  conv => lhs; rw [← List.map_id (Lib.goFieldsP (fun x => x == 32) (sb s))]
  exact List.map_congr_left fun x _ => (sb_of x).symm
 have h1 := Any.strings_FieldsFunc_runes lays229 g #[] eg (fun x => x == 32) (sb s) w (by rw [sb_size]; exact hs)
  (fun W x hx _ => (hp W x hx).mono fun e W' ⟨h2, h3⟩ => ⟨h2, 0, h3⟩) (by kernel_rfl) (by kernel_rfl)
 refine h1.mono ?_
 rintro e w' ⟨A, rfl, hA, hown, hb⟩
 rw [hL, List.length_map] at hown ⊢
 have hlen : ((words [] s).map sb).length = (words [] s).length := List.length_map _
 refine ⟨_, rfl, ⟨_, _, rfl, Nat.le_refl _, ?_⟩, below_fr hb⟩
 by_cases h0 : words [] s = []
 ·exact .inl h0
 ·right
  have hlt : A < w'.heap.size := by
   rcases hown.2 with ⟨h2, -⟩ | ⟨g', cap, cur, h2, -, hg, -⟩
   ·cases h2
   ·simp only [Value.slice.injEq, Option.some.injEq, Addr.mk.injEq] at h2
    obtain ⟨⟨rfl, -⟩, -⟩ := h2
    exact (Array.getElem?_eq_some_iff.1 hg).1
  refine ⟨A, 0, rfl, hlt, ?_⟩
  intro j u hj
  have := hown.cells (g := A) rfl j u (by rw [List.map_map]; exact hj)
  rwa [Addr.add_mid] at this
theorem lays169 : Go.Proofs.Lays.n169 Tryz.prog lays156_ren := { lays156 with }
def Bld (base b : Nat) (l : B) (w : World) : Prop := Lib.IsBuilder 170 5 base b (Lib.byteCells l) w
theorem Bld.lt {base b : Nat} {l : B} {w : World} (h : Bld base b l w) : base ≤ b ∧ b < w.heap.size := by
 rcases h with h | h
 ·exact ⟨h.1, h.lt⟩
 ·exact ⟨h.1, h.lt⟩
theorem below_fr' {w w' : World} {base : Nat} (h : Go.RowKit.Below base w w') : Fr (fun k => base ≤ k) w w' := ⟨h.os, h.tape, h.output, h.size, fun k _ hn => h.block k (by omega)⟩
theorem builderString_any (base b : Nat) (l : B) (w : World) (h : Bld base b l w) (hb : base ≤ w.heap.size) :
  Calls Tryz.prog 122 #[.pointer (some ⟨b, 0, none⟩)] w fun e w' => e = .returned (.string (sb l)) ∧ Fr (fun k => base ≤ k) w w' := by
 refine (Any.Builder_String_any lays169 extra156 base b l w h hb).mono ?_
 rintro e w' ⟨rfl, h2⟩
 exact ⟨rfl, below_fr' h2⟩
end Go.Proofs.YtgbiicipkbpmeaaGreatDoor.DN
namespace Go.Proofs.YtgbiicipkbpmeaaGreatDoor.DN
set_option maxRecDepth 100000
set_option maxHeartbeats 128000000
open Go.RowKit K BE
def BlkF (w : World) (b : Nat) (t : TypeId) (cs : List Value) : Prop := w.heap[b]? = some (.cells cs.toArray t (cs.length, cs.length + 1))
theorem BlkF.lt {w : World} {b : Nat} {t : TypeId} {cs : List Value} (h : BlkF w b t cs) : b < w.heap.size := (Array.getElem?_eq_some_iff.1 h).1
theorem BlkF.cell {w : World} {b : Nat} {t : TypeId} {cs : List Value} (h : BlkF w b t cs) (j : Nat) : w.cell? ⟨b, j, none⟩ = cs[j]? := by
 rw [cell_of_row w b j cs.toArray t _ h]; simp
theorem BlkF.frozen {w : World} {b : Nat} {t : TypeId} {cs : List Value} (h : BlkF w b t cs) {j : Nat} (hj : j < cs.length) : w.frozen? ⟨b, j, none⟩ = false := by
 unfold World.frozen?
 rw [h]
 simp
 omega
theorem BlkF.set {w : World} {b : Nat} {t : TypeId} {cs : List Value} (h : BlkF w b t cs) (j : Nat) (v : Value) : BlkF (w.setCell ⟨b, j, none⟩ v) b t (cs.set j v) := by
 unfold BlkF World.setCell at *
 simp only [Array.getElem?_modify, if_true, h, Option.map_some, List.length_set]
 simp
theorem wpL_setF {P : Program} {ops : Array Oper} {rest : List Oper} {op : Oper} {a : Act} {w : World} {Q : Exit → Act → World → Prop} (hgd : op.guard = none) (ty : TypeId) (x y : Operand) (ho : op.op = .store ty x y) (b o : Nat) (v : Value) (hx : a.eval x = .pointer (some ⟨b, o, none⟩)) (hy : a.eval y = v) (hv : v.cells = #[v]) (h1 : v.oneCell' = true)
  (t : TypeId) (cs : List Value) (hB : BlkF w b t cs) (hle : o < cs.length) (hi : (P.info? ty).map (·.size) = some 1)
  (h : ∀ w', Hid (BlkF w' b t (cs.set o v)) → Hid (Fr (fun k => k = b) w w') → wpList P ops Q rest (a.put op.dst undef) w') : wpList P ops Q (op :: rest) a w := by
 refine wpList_plain hgd fun K hK => ?_
 have hth : w.there b o [v].length := by
  intro j hj
  obtain rfl : j = 0 := by simpa using hj
  rw [Nat.add_zero, hB.cell, hB.frozen hle]
  simp [hle]
 have hr := run_storeV (P := P) w b o ty v [v] (by rw [hv]) hth (by simpa using hi) (by simpa using h1)
 unfold Oper.wp execOp
 simp only [ho, hx, hy, Instr.storeAt, Instr.sureAddr, Sem.run_bind, Sem.run_pure, Result.andThen_ok, hr]
 exact hK _ _ (h _ (hid (hB.set o v)) (hid ((Fr.refl (fun k => k = b) w).setCells b o [v] (.inl rfl))))
theorem wpL_bytesF {P : Program} {ops : Array Oper} {rest : List Oper} {op : Oper} {a : Act} {w : World} {Q : Exit → Act → World → Prop} (hgd : op.guard = none) (src dst e : TypeId) (x : Operand) (ho : op.op = .convert src dst x) (s : ByteArray) (hx : a.eval x = .string s)
  (hs : P.underlying src = some .string) (hd : P.underlying dst = some (.slice e)) (he : P.underlying e = some (.int .u8))
  (h : ∀ c z w', s.size ≤ c → Hid (BlkF w' w.heap.size e (u8s s.data.toList ++ z)) → Hid (Fr No w w') → wpList P ops Q rest (a.put op.dst (.slice (some ⟨w.heap.size, 0, none⟩) s.size c)) w') : wpList P ops Q (op :: rest) a w := by
 refine wpList_plain hgd fun K hK => ?_
 have hrun := run_bytes_of_string (P := P) w src dst e s hs hd he
 have hB : (bytesRow s (grownCap w s.size 0 e)) = (u8s s.data.toList ++ List.replicate (grownCap w s.size 0 e - s.size) (Value.int .u8 0)).toArray := by
  unfold bytesRow u8s
  apply Array.toList_inj.1
  simp
 have h1 := h (grownCap w s.size 0 e) (List.replicate (grownCap w s.size 0 e - s.size) (Value.int .u8 0)) (w.drew.alloc (.cells (bytesRow s (grownCap w s.size 0 e)) e ((bytesRow s (grownCap w s.size 0 e)).size, (bytesRow s (grownCap w s.size 0 e)).size + 1))) (grownCap_ge _ _ _ _)
  (hid (by rw [hB]; unfold BlkF; rw [show w.heap.size = w.drew.heap.size from rfl, heap_alloc_new w.drew]; simp)) (hid ((Fr.refl No w).drew.alloc _))
 unfold Oper.wp
 simp [execOp, ho, hx, hrun, Result.andThen]
 exact hK _ _ h1
theorem infoU8 : (Tryz.prog.info? 5).map (·.size) = some 1 := by kernel_rfl
theorem lo_nat (c : UInt8) : (lo c).toNat = if 65 ≤ c.toNat ∧ c.toNat ≤ 90 then c.toNat + 32 else c.toNat := by
 have := u8_all (fun c => (lo c).toNat == if 65 ≤ c.toNat ∧ c.toNat ≤ 90 then c.toNat + 32 else c.toNat) (by decide +kernel) c
 simpa using this
theorem lower_str (s : B) (hs : Sz s) (w : World) : Calls Tryz.prog 112 #[.string (sb s)] w fun e w' => e = .returned (.string (sb (low s))) ∧ Fr No w w' := by
 have hz : (sb s).size = s.length := sb_size s
 have hzl : (sb s).data.toList = s := sb_list s
 obtain ⟨S, hS⟩ : ∃ S, sb s = S := ⟨_, rfl⟩
 obtain ⟨n, hn⟩ : ∃ n, s.length = n := ⟨_, rfl⟩
 rw [hS] at hz hzl ⊢
 rw [hn] at hz
 have hni : (n : Int) ≤ 140737488351232 := by unfold Sz at hs; omega
 have HNN := hid hn; have HZL := hid hzl; have HZ := hid hz
 clear hs hz hzl hS hn
 go_enter Tryz.func112, Tryz.ntmps112
 go_wp2_with (first
  | ((with_reducible refine K.atO (.convert _ 150 _) ?_); refine wpL_bytesF rfl _ _ _ _ rfl S rfl Tryz.underlying9 Tryz.underlying150 Tryz.underlying5 ?_; intro cp z w1 hcp HB1 HF1; rw [HZ.out]))
 obtain ⟨g, hg⟩ : ∃ g, w.heap.size = g := ⟨_, rfl⟩
 rw [hg] at HB1 ⊢
 rw [HZL.out] at HB1
 have HG := hid hg
 have HCP := hid hcp
 clear hg hcp
 go_loopw [10] (fun iv wr => ∃ (i : Nat), iv = .int .i64 i ∧ i ≤ n ∧ Hid (BlkF wr g 5 (u8s (low (s.take i) ++ s.drop i) ++ z) ∧ Fr No w wr)) (fun iv _ => n - (intOf iv).toNat)
 case atStart => exact ⟨0, rfl, Nat.zero_le _, hid ⟨by simpa [low] using HB1.out, HF1.out⟩⟩
 case round =>
  obtain ⟨i, rfl, hi, HI⟩ := hrel
  by_cases hlt : i < n
  ·have hlti : (i : Int) < n := by omega
   have hi0 : (0 : Int) ≤ i := by omega
   obtain ⟨c, hc⟩ : ∃ c, s[i]? = some c := ⟨_, List.getElem?_eq_getElem (by rw [HNN.out]; exact hlt)⟩
   have hlow : (low (s.take i)).length = i := by rw [low_length, List.length_take, HNN.out]; omega
   have hcur : (u8s (low (s.take i) ++ s.drop i) ++ z)[i]? = some (.int .u8 (c.toNat : Int)) := by
    rw [List.getElem?_append_left (by rw [u8s_length, List.length_append, hlow, List.length_drop, HNN.out]; omega)]
    unfold u8s
    rw [List.getElem?_map, List.getElem?_append_right (by omega), hlow, Nat.sub_self, List.getElem?_drop, Nat.add_zero, hc]
    rfl
   have hcell : wr.cell? ⟨g, i, none⟩ = some (.int .u8 (c.toNat : Int)) := by rw [HI.out.1.cell]; exact hcur
   have hsplit : s.drop i = c :: s.drop (i + 1) := by
    have hl : i < s.length := by rw [HNN.out]; exact hlt
    rw [List.drop_eq_getElem_cons hl]
    rw [List.getElem?_eq_getElem hl] at hc
    rw [Option.some.inj hc]
   have htake : low (s.take (i + 1)) = low (s.take i) ++ [lo c] := by
    unfold low
    rw [List.take_add_one, hc]
    simp
   have hset : (u8s (low (s.take i) ++ s.drop i) ++ z).set i (.int .u8 ((lo c).toNat : Int)) = u8s (low (s.take (i + 1)) ++ s.drop (i + 1)) ++ z := by
    rw [htake, hsplit, u8s_append, List.append_assoc, List.set_append_right _ _ (by rw [u8s_length, hlow]; exact Nat.le_refl _), u8s_length, hlow, Nat.sub_self]
    simp [u8s]
   have hlen : i < (u8s (low (s.take i) ++ s.drop i) ++ z).length := (List.getElem?_eq_some_iff.1 hcur).1
   have HSET := hid hset; have HLEN := hid hlen
   have hlo := lo_nat c
   obtain ⟨xn, hxn⟩ : ∃ xn, c.toNat = xn := ⟨_, rfl⟩
   have hb := lt256 c
   rw [hxn] at hcell hlo hb
   have HLT := hid hlt
   have HFS : Hid (∀ w', Fr (fun k => k = g) wr w' → Fr No w w') := hid (fun w' h => HI.out.2.trans h (fun k e => .inr (by rw [HG.out]; have e : k = g := e; omega)))
   clear hcur hsplit htake hset hlen hc hlow hi hlt
   by_cases hup : 65 ≤ xn ∧ xn ≤ 90
   ·rw [if_pos hup] at hlo
    have h1 : (65 : Int) ≤ xn := by omega
    have h2 : (xn : Int) ≤ 90 := by omega
    have HLO := hid hlo
    clear hup hlo hxn
    go_wp2_with (first
     | ((with_reducible refine K.atO (.store 5 _ _) ?_); refine wpL_setF rfl _ _ _ rfl g i (.int .u8 ((lo c).toNat : Int)) (by go_simp) (by rw [HLO.out]; exact congrArg (Value.int .u8) (by omega)) rfl rfl 5 _ HI.out.1 HLEN.out infoU8 ?_; intro w2 HB2 HF2))
    refine ⟨⟨i + 1, by go_num, HLT.out, hid ⟨by rw [← HSET.out]; exact HB2.out, HFS.out w2 HF2.out⟩⟩, ?_⟩
    have := HLT.out
    simp [intOf]; omega
   ·rw [if_neg hup] at hlo
    have h1 : (xn : Int) < 65 ∨ (65 ≤ (xn : Int) ∧ ¬ (xn : Int) ≤ 90) := by omega
    have HSAME : Hid (BlkF wr g 5 (u8s (low (s.take (i + 1)) ++ s.drop (i + 1)) ++ z)) := hid (by
     rw [← HSET.out, hlo, ← hxn]
     have h := HI.out.1
     have hce := h.cell i
     rw [hxn] at *
     rw [hcell] at hce
     obtain ⟨hl, e⟩ := List.getElem?_eq_some_iff.1 hce.symm
     rw [← e, List.set_getElem_self]
     exact h)
    clear hup hlo hxn
    rcases h1 with h1 | ⟨h1, h2⟩
    all_goals
     go_wp2_with fail
     refine ⟨⟨i + 1, by go_num, HLT.out, hid ⟨HSAME.out, HI.out.2⟩⟩, ?_⟩
     have := HLT.out
     simp [intOf]; omega
  ·obtain rfl : i = n := by omega
   have hB := HI.out.1
   rw [← HNN.out, List.take_length, List.drop_length, List.append_nil] at hB
   have hbi : BytesIn wr (fun _ => True) (.slice (some ⟨g, 0, none⟩) i cp) (low s) := by
    refine ⟨_, _, _, rfl, by rw [low_length]; exact HNN.out, (by have := HCP.out; rw [HZ.out] at this; exact this), .inr ⟨g, 0, rfl, trivial, hB.lt, ?_⟩⟩
    intro j v hj
    rw [Nat.zero_add, hB.cell, List.getElem?_append_left (List.getElem?_eq_some_iff.1 hj).1]
    exact hj
   have HBI := hid hbi
   clear hB hbi hi hlt
   go_wp2_with (first
    | ((with_reducible refine K.atO (.convert _ 9 _) ?_); refine wpL_stringOf rfl _ _ _ _ rfl _ _ (low s) rfl HBI.out Tryz.underlying150 Tryz.underlying5 Tryz.underlying9 ?_))
   go_ret
   exact ⟨rfl, HI.out.2⟩
theorem blank_any (x : Nat) (hx : x ≤ 1114111) (w : World) : Calls Tryz.prog 113 #[.int .i32 (x : Int)] w fun e w' => e = .returned (.bool (x == 32)) ∧ w' = w := by
 by_cases h : x = 32
 ·subst h
  go_enter Tryz.func113, Tryz.ntmps113
  go_wp2
  go_ret
  exact ⟨rfl, rfl⟩
 ·have h1 : (x == 32) = false := by simpa using h
  have h2 : ((x : Int) == 32) = false := by rw [beq_eq_false_iff_ne]; omega
  have H2 := hid h2
  rw [h1]
  clear h h1 h2
  go_enter Tryz.func113, Tryz.ntmps113
  go_wp2
  go_ret
  exact ⟨by show Ending.returned (.bool ((x : Int) == 32)) = _; rw [H2.out], rfl⟩
theorem fold_any (s : B) (hs : s.length ≤ 4294967296) (w : World) : Calls Tryz.prog 69 #[.string (sb s)] w fun e w' => e = .returned (.string (sb (fold s))) ∧ Fr No w w' := by
 have H1 := hid (lower_str s (by unfold Sz; omega) w)
 have H2 := hid (fun w => fields_any 113 (fun _ _ => by kernel_rfl) (low s) w (by rw [low_length]; exact hs) (fun W x hx => blank_any x hx W))
 have hfl := fold_len s
 have HL : Hid (∀ E v w, (∃ a cap, v = .slice a (words [] (low s)).length cap ∧ (words [] (low s)).length ≤ cap ∧ (words [] (low s) = [] ∨ ∃ g o, a = some ⟨g, o, none⟩ ∧ g < w.heap.size ∧ w.rangeAt g o (strs (words [] (low s))))) →
   Calls Tryz.prog 114 #[v, .string (sb [32])] w fun e w' => e = .returned (.string (sb (fold s))) ∧ Fr No w w') := hid (fun E v w h => join_any E v _ [32] w h (by
    have h1 := words_count (low s) []
    simp only [List.isEmpty_nil, if_true, Nat.add_zero] at h1
    rw [low_length] at h1
    omega) (by show (fold s).length ≤ _; omega))
 clear hfl hs
 go_enter Tryz.func69, Tryz.ntmps69
 go_wp2_with fail
 refine H1.out.mono ?_
 rintro e w1 ⟨rfl, f1⟩
 have HF1 := hid f1
 clear f1
 go_wp2_with fail
 refine (H2.out _).mono ?_
 rintro e w2 ⟨v, rfl, hv, f2⟩
 have HV := hid hv
 have HF2 := hid (HF1.out.trans' f2)
 obtain ⟨a, cap, rfl, -, -⟩ := hv
 clear f2
 go_wp2_with fail
 refine (HL.out (fun _ => True) _ _ HV.out).mono ?_
 rintro e w3 ⟨rfl, f3⟩
 have HF3 := hid (HF2.out.trans' f3)
 clear f3
 go_wp2_with fail
 go_ret
 exact ⟨rfl, HF3.out⟩
end Go.Proofs.YtgbiicipkbpmeaaGreatDoor.DN
