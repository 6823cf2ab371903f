/-
  Part 8 of the proof: DrS, ScI, ScF.
-/
import Derived.Test.YtooodoacpdhbfaaGreatDoorSm06
import Derived.Test.YtooodoacpdhbfaaGreatDoorSm07
import Derived.Test.YtooodoacpdhbfaaGreatDoorSm04
import Derived.Test.YtooodoacpdhbfaaGreatDoorSm05
set_option linter.unusedSimpArgs false
set_option linter.unusedVariables false
namespace Go.Proofs.YtooodoacpdhbfaaGreatDoor.DN
set_option maxRecDepth 100000
open Go.RowKit K Go.Proofs.YtooodoacpdhbfaaGreatDoor.BE

theorem lo_n (c : UInt8) : lo c = if 65 ≤ c.toNat ∧ c.toNat ≤ 90 then c + 32 else c := by
  have := u8_all (fun c => lo c == if 65 ≤ c.toNat ∧ c.toNat ≤ 90 then c + 32 else c) (by decide +kernel) c
  simpa using this
set_option maxHeartbeats 8000000 in
theorem small_any (s : B) (hs : s.length ≤ 1048576) (w : World) : Calls Tryz.prog 33 #[.string (sb s)] w fun e w' => e = .returned (.string (sb (low s))) ∧ Fr No w w' := by
  obtain ⟨S, hS⟩ : ∃ S, sb s = S := ⟨_, rfl⟩
  obtain ⟨n, hn⟩ : ∃ n, s.length = n := ⟨_, rfl⟩
  have hsz : (S.size : Int) = n := by rw [← hS, sb_size, hn]
  have hni : (n : Int) ≤ 1048576 := by omega
  have HS := hid hS; have HN := hid hn
  rw [hS]
  clear hS hn hs
  go_enter Tryz.func33, Tryz.ntmps33
  go_wp2_with fail
  go_loopw [3, 4] (fun dv iv wr => ∃ (i : Nat), iv = .int .i64 i ∧ i ≤ n ∧ Hid (OwR 5 1 w wr dv i (u8s ((low s).take i)))) (fun _ iv _ => n - (intOf iv).toNat)
  case atStart => exact ⟨0, rfl, Nat.zero_le _, hid (owR_nil (Fr.refl _ _))⟩
  case round =>
    obtain ⟨i, rfl, hi, HO⟩ := hrel
    obtain ⟨va, vc, rfl⟩ := HO.out.1
    by_cases hlt : i < n
    · obtain ⟨c, hc⟩ : ∃ c, s[i]? = some c := ⟨_, List.getElem?_eq_getElem (by rw [HN.out]; exact hlt)⟩
      have hlti : (i : Int) < n := by omega
      have hi0 : (0 : Int) ≤ i := by omega
      have HC := hid hc
      have HLT := hid hlt
      have HNX : Hid (u8s ((low s).take (i + 1)) = u8s ((low s).take i) ++ [.int .u8 ((lo c).toNat : Int)]) := hid (by
        have hl : (low s)[i]? = some (lo c) := by simp [low, hc]
        rw [List.take_add_one, hl]
        simp [u8s])
      by_cases hup : 65 ≤ c.toNat ∧ c.toNat ≤ 90
      · have h1 : (65 : Int) ≤ (c.toNat : Int) := by omega
        have h2 : (c.toNat : Int) ≤ 90 := by omega
        have hlo : ((lo c).toNat : Int) = (c.toNat : Int) + 32 := by
          rw [lo_n, if_pos hup, UInt8.toNat_add]
          have : (32 : UInt8).toNat = 32 := rfl
          rw [this]
          omega
        rw [hlo] at HNX
        clear hup hlo hc hlt
        go_wp2_with (first
          | ((with_reducible refine K.atO (.index 9 _ _) ?_); refine wpL_valZ (by rfl) (.int .u8 (c.toNat : Int)) (exec_idxB _ _ rfl s HS.out i c HC.out _ rfl rfl rfl _) ?_)
          | ((with_reducible refine K.atO (.buildSlice 120 _ _) ?_); refine wpL_app1 rfl rfl _ _ _ 120 5 rfl rfl Tryz.underlying120 infoU rfl (by decide) (by decide) HO.out (.int .u8 ((c.toNat : Int) + 32)) [.int .u8 ((c.toNat : Int) + 32)] rfl rfl rfl (by simp [Value.oneCell']) (fun _ => rfl) (fun _ => rfl) (by omega) (by omega) ?_; intro q a4 c4 w4 HO4 HF4)
          | fail)
        refine ⟨⟨i + 1, by go_num, HLT.out, hid (by rw [HNX.out]; exact HO4.out)⟩, ?_⟩
        have := HLT.out
        simp [intOf]; omega
      · have hlo : lo c = c := by rw [lo_n, if_neg hup]
        rw [hlo] at HNX
        have hcase : c.toNat < 65 ∨ (65 ≤ c.toNat ∧ 90 < c.toNat) := by omega
        clear hup hlo hc hlt
        rcases hcase with h | ⟨h, h'⟩
        · have h1 : ¬ (65 : Int) ≤ (c.toNat : Int) := by omega
          clear h
          go_wp2_with (first
            | ((with_reducible refine K.atO (.index 9 _ _) ?_); refine wpL_valZ (by rfl) (.int .u8 (c.toNat : Int)) (exec_idxB _ _ rfl s HS.out i c HC.out _ rfl rfl rfl _) ?_)
            | ((with_reducible refine K.atO (.buildSlice 120 _ _) ?_); refine wpL_app1 rfl rfl _ _ _ 120 5 rfl rfl Tryz.underlying120 infoU rfl (by decide) (by decide) HO.out (.int .u8 (c.toNat : Int)) [.int .u8 (c.toNat : Int)] rfl rfl rfl (by simp [Value.oneCell']) (fun _ => rfl) (fun _ => rfl) (by omega) (by omega) ?_; intro q a4 c4 w4 HO4 HF4)
            | fail)
          refine ⟨⟨i + 1, by go_num, HLT.out, hid (by rw [HNX.out]; exact HO4.out)⟩, ?_⟩
          have := HLT.out
          simp [intOf]; omega
        · have h1 : (65 : Int) ≤ (c.toNat : Int) := by omega
          have h2 : ¬ (c.toNat : Int) ≤ 90 := by omega
          clear h h'
          go_wp2_with (first
            | ((with_reducible refine K.atO (.index 9 _ _) ?_); refine wpL_valZ (by rfl) (.int .u8 (c.toNat : Int)) (exec_idxB _ _ rfl s HS.out i c HC.out _ rfl rfl rfl _) ?_)
            | ((with_reducible refine K.atO (.buildSlice 120 _ _) ?_); refine wpL_app1 rfl rfl _ _ _ 120 5 rfl rfl Tryz.underlying120 infoU rfl (by decide) (by decide) HO.out (.int .u8 (c.toNat : Int)) [.int .u8 (c.toNat : Int)] rfl rfl rfl (by simp [Value.oneCell']) (fun _ => rfl) (fun _ => rfl) (by omega) (by omega) ?_; intro q a4 c4 w4 HO4 HF4)
            | fail)
          refine ⟨⟨i + 1, by go_num, HLT.out, hid (by rw [HNX.out]; exact HO4.out)⟩, ?_⟩
          have := HLT.out
          simp [intOf]; omega
    · obtain rfl : i = n := by omega
      have hall : (low s).take i = low s := List.take_of_length_le (by rw [low_length, HN.out]; exact Nat.le_refl _)
      have HO2 : Hid (OwR 5 1 w wr (.slice va i vc) (low s).length (u8s (low s))) := hid (by rw [low_length, HN.out]; have h := HO.out; rw [hall] at h; exact h)
      have HDEN := hid (owR_bytes HO2.out)
      clear hall hlt
      go_wp2_with (first
        | ((with_reducible refine K.atO (.convert _ 9 _) ?_); refine wpL_stringOf rfl _ _ _ _ rfl _ _ (low s) rfl HDEN.out Tryz.underlying120 Tryz.underlying5 Tryz.underlying9 ?_)
        | fail)
      go_ret
      exact ⟨rfl, HO.out.fr⟩
end Go.Proofs.YtooodoacpdhbfaaGreatDoor.DN

namespace Go.Proofs.YtooodoacpdhbfaaGreatDoor.SC
set_option maxRecDepth 100000
open Go.RowKit K Go.Proofs.YtooodoacpdhbfaaGreatDoor.BE Go.Proofs.YtooodoacpdhbfaaGreatDoor.DN

/-- The first place, or -1. -/
def idxI {α : Type} (X : List α) (q : α → Bool) : Int := match X.findIdx? q with | some i => (i : Int) | none => -1
theorem idx_at {α : Type} {X : List α} {q : α → Bool} {i : Nat} {x : α} (h0 : (X.take i).any q = false) (hx : X[i]? = some x) (hq : q x = true) : idxI X q = i := by
  have : X.findIdx? q = some i := by
    obtain ⟨hl, e⟩ := List.getElem?_eq_some_iff.1 hx
    rw [List.findIdx?_eq_some_iff_getElem]
    refine ⟨hl, by rw [e]; exact hq, fun j hj => ?_⟩
    have h1 := List.any_eq_false.1 h0 X[j] (List.mem_take_iff_getElem.2 ⟨j, by omega, rfl⟩)
    exact h1
  unfold idxI
  rw [this]
theorem idx_none {α : Type} {X : List α} {q : α → Bool} (h0 : X.any q = false) : idxI X q = -1 := by
  have : X.findIdx? q = none := List.findIdx?_eq_none_iff.2 fun x hx => by
    have := List.any_eq_false.1 h0 x hx
    simpa using this
  unfold idxI
  rw [this]
theorem idx_any {α : Type} (X : List α) (q : α → Bool) : decide (0 ≤ idxI X q) = X.any q := by
  unfold idxI
  cases h : X.findIdx? q with
  | none =>
    rw [List.findIdx?_eq_none_iff] at h
    rw [List.any_eq_false.2 fun x hx => by rw [h x hx]; decide]
    rfl
  | some i =>
    rw [List.findIdx?_eq_some_iff_getElem] at h
    obtain ⟨hl, e, -⟩ := h
    rw [List.any_eq_true.2 ⟨_, List.getElem_mem hl, e⟩]
    simp
theorem idx_b {α : Type} (X : List α) (q : α → Bool) : -1 ≤ idxI X q ∧ idxI X q < X.length ∨ X = [] ∧ idxI X q = -1 := by
  unfold idxI
  cases h : X.findIdx? q with
  | none => cases X with
    | nil => exact .inr ⟨rfl, rfl⟩
    | cons a r => exact .inl ⟨Int.le_refl _, by simp only [List.length_cons]; omega⟩
  | some i =>
    have := (List.findIdx?_eq_some_iff_getElem.1 h).1
    exact .inl ⟨by simp only []; omega, by simp only []; omega⟩
set_option maxHeartbeats 8000000 in
theorem indexTy {α : Type} (f : FuncId) (cap : List Value) (q : α → Bool) (p : World → α → List Value → Prop) (D : Nat → Prop) (I : World → Prop) (E : Nat → Prop) (v0 : Value) (X : List α) (w : World) (hp : ∀ w w' x c, p w x c → Fr D w w' → p w' x c) (hD : ∀ i, E i → i < w.heap.size → ¬ D i) (hI : I w)
    (h0 : Sl 6 (p w) E w v0 X) (hent : ∀ (vs : Array Value) (w : World), (callFunc f vs).run Tryz.prog w = .ok (.enter f vs) w)
    (hf : ∀ x ∈ X, ∀ c wv, p wv x c → I wv → Fr D w wv → Calls Tryz.prog f (Value.agg c.toArray :: cap).toArray wv fun e w' => e = .returned (.bool (q x)) ∧ I w' ∧ Fr D wv w') :
    Calls Tryz.prog 146 #[v0, .func (.func f) #[] cap.toArray] w fun e w' => e = .returned (.int .i64 (idxI X q)) ∧ I w' ∧ Fr D w w' := by
  obtain ⟨a, c, rfl, -, hl0⟩ := h0.form
  have HX0 := hid h0
  obtain ⟨n, hn⟩ : ∃ n, X.length = n := ⟨_, rfl⟩
  rw [hn] at HX0 hl0 ⊢
  have HNN := hid hn; have HP := hid hp; have HE := hid hent; have HF := hid hf; have HD := hid hD; have HI0 := hid hI
  obtain ⟨R, hR⟩ : ∃ R, idxI X q = R := ⟨_, rfl⟩
  rw [hR]
  have HR := hid hR
  have hni : (n : Int) ≤ 140737488351232 := by omega
  clear hp h0 hent hf hn hR hD hI
  go_enter Tryz.func146, Tryz.ntmps146
  go_wp2_with fail
  go_loopw [8] (fun iv wr => ∃ (i : Nat), iv = .int .i64 i ∧ i ≤ n ∧ Hid ((X.take i).any q = false ∧ I wr ∧ Fr D w wr)) (fun iv _ => n - (intOf iv).toNat)
  case atStart => exact ⟨0, rfl, Nat.zero_le _, hid ⟨rfl, HI0.out, Fr.refl _ _⟩⟩
  case round =>
    obtain ⟨i, rfl, hi, HI⟩ := hrel
    by_cases hlt : i < n
    · have hiX : i < X.length := by rw [HNN.out]; exact hlt
      obtain ⟨x, hx⟩ : ∃ x, X[i]? = some x := ⟨_, List.getElem?_eq_getElem hiX⟩
      have HXM := hid (List.mem_of_getElem? hx)
      have HXX := hid hx
      have HNX : Hid ((X.take (i + 1)).any q = (q x || false)) := hid (by
        have hxx : X[i] = x := by rw [List.getElem?_eq_getElem hiX] at hx; exact Option.some.inj hx
        rw [List.take_succ_eq_append_getElem hiX, List.any_append, HI.out.1, hxx]; simp)
      have hlti : (i : Int) < n := by omega
      have hi0 : (0 : Int) ≤ i := by omega
      obtain ⟨g, o, cp, c, e1, hEg, hgw, hr, hc, hxa⟩ := (HX0.out.fr HI.out.2.2 HD.out (fun x c _ h => HP.out _ _ x c h HI.out.2.2)).get hx
      rw [HNN.out] at e1
      simp only [Value.slice.injEq, true_and] at e1
      obtain ⟨rfl, rfl⟩ := e1
      have HXA := hid hxa; have HC := hid hc; have HRR := hid hr
      have HI3 : Hid ((Tryz.prog.info? 39).map (·.size) = some c.length) := hid (by rw [hc]; exact infoTy)
      clear hc hEg hgw hr hxa hx
      go_wp2_with (first
        | ((with_reducible refine K.atO (.load 39 _) ?_); refine wpL_load rfl _ _ rfl g (o + i * 6) rfl c _ HRR.out rfl rfl HI3.out ?_)
        | ((with_reducible refine K.atO (.call { callee := .value _, args := _, argTypes := _ }) ?_); refine wpL_callP rfl _ [_] _ rfl f cap rfl HE.out (Value.agg c.toArray :: cap) rfl ?_)
        | fail)
      refine (HF.out x HXM.out c wr HXA.out HI.out.2.1 HI.out.2.2).mono ?_
      rintro e w4 ⟨rfl, i4, f4⟩
      refine .inl ⟨_, rfl, ?_⟩
      have HF4 := hid (HI.out.2.2.trans' f4)
      have HI4 := hid i4
      have HLT := hid hlt
      clear f4 i4 hlt
      cases hq : q x with
      | true =>
        have HQ := hid hq
        clear hq
        go_wp2_with fail
        go_ret
        exact ⟨by rw [← HR.out, idx_at HI.out.1 HXX.out HQ.out]; rfl, HI4.out, HF4.out⟩
      | false =>
        have HQ := hid hq
        clear hq
        go_wp2_with fail
        go_roundw
        case rel => exact ⟨i + 1, by go_num, HLT.out, hid ⟨by rw [HNX.out, HQ.out]; rfl, HI4.out, HF4.out⟩⟩
        case measure => have := HLT.out; simp [intOf]; omega
    · obtain rfl : i = n := by omega
      go_wp2_with fail
      go_ret
      refine ⟨?_, HI.out.2.1, HI.out.2.2⟩
      have h1 := HI.out.1
      rw [List.take_of_length_le (by rw [HNN.out]; exact Nat.le_refl _)] at h1
      rw [← HR.out, idx_none h1]
      rfl
set_option maxHeartbeats 8000000 in
theorem indexCl {α : Type} (f : FuncId) (cap : List Value) (q : α → Bool) (p : World → α → List Value → Prop) (D : Nat → Prop) (I : World → Prop) (E : Nat → Prop) (v0 : Value) (X : List α) (w : World) (hp : ∀ w w' x c, p w x c → Fr D w w' → p w' x c) (hD : ∀ i, E i → i < w.heap.size → ¬ D i) (hI : I w)
    (h0 : Sl 5 (p w) E w v0 X) (hent : ∀ (vs : Array Value) (w : World), (callFunc f vs).run Tryz.prog w = .ok (.enter f vs) w)
    (hf : ∀ x ∈ X, ∀ c wv, p wv x c → I wv → Fr D w wv → Calls Tryz.prog f (Value.agg c.toArray :: cap).toArray wv fun e w' => e = .returned (.bool (q x)) ∧ I w' ∧ Fr D wv w') :
    Calls Tryz.prog 166 #[v0, .func (.func f) #[] cap.toArray] w fun e w' => e = .returned (.int .i64 (idxI X q)) ∧ I w' ∧ Fr D w w' := by
  obtain ⟨a, c, rfl, -, hl0⟩ := h0.form
  have HX0 := hid h0
  obtain ⟨n, hn⟩ : ∃ n, X.length = n := ⟨_, rfl⟩
  rw [hn] at HX0 hl0 ⊢
  have HNN := hid hn; have HP := hid hp; have HE := hid hent; have HF := hid hf; have HD := hid hD; have HI0 := hid hI
  obtain ⟨R, hR⟩ : ∃ R, idxI X q = R := ⟨_, rfl⟩
  rw [hR]
  have HR := hid hR
  have hni : (n : Int) ≤ 140737488351232 := by omega
  clear hp h0 hent hf hn hR hD hI
  go_enter Tryz.func166, Tryz.ntmps166
  go_wp2_with fail
  go_loopw [8] (fun iv wr => ∃ (i : Nat), iv = .int .i64 i ∧ i ≤ n ∧ Hid ((X.take i).any q = false ∧ I wr ∧ Fr D w wr)) (fun iv _ => n - (intOf iv).toNat)
  case atStart => exact ⟨0, rfl, Nat.zero_le _, hid ⟨rfl, HI0.out, Fr.refl _ _⟩⟩
  case round =>
    obtain ⟨i, rfl, hi, HI⟩ := hrel
    by_cases hlt : i < n
    · have hiX : i < X.length := by rw [HNN.out]; exact hlt
      obtain ⟨x, hx⟩ : ∃ x, X[i]? = some x := ⟨_, List.getElem?_eq_getElem hiX⟩
      have HXM := hid (List.mem_of_getElem? hx)
      have HXX := hid hx
      have HNX : Hid ((X.take (i + 1)).any q = (q x || false)) := hid (by
        have hxx : X[i] = x := by rw [List.getElem?_eq_getElem hiX] at hx; exact Option.some.inj hx
        rw [List.take_succ_eq_append_getElem hiX, List.any_append, HI.out.1, hxx]; simp)
      have hlti : (i : Int) < n := by omega
      have hi0 : (0 : Int) ≤ i := by omega
      obtain ⟨g, o, cp, c, e1, hEg, hgw, hr, hc, hxa⟩ := (HX0.out.fr HI.out.2.2 HD.out (fun x c _ h => HP.out _ _ x c h HI.out.2.2)).get hx
      rw [HNN.out] at e1
      simp only [Value.slice.injEq, true_and] at e1
      obtain ⟨rfl, rfl⟩ := e1
      have HXA := hid hxa; have HC := hid hc; have HRR := hid hr
      have HI3 : Hid ((Tryz.prog.info? 44).map (·.size) = some c.length) := hid (by rw [hc]; exact infoCl)
      clear hc hEg hgw hr hxa hx
      go_wp2_with (first
        | ((with_reducible refine K.atO (.load 44 _) ?_); refine wpL_load rfl _ _ rfl g (o + i * 5) rfl c _ HRR.out rfl rfl HI3.out ?_)
        | ((with_reducible refine K.atO (.call { callee := .value _, args := _, argTypes := _ }) ?_); refine wpL_callP rfl _ [_] _ rfl f cap rfl HE.out (Value.agg c.toArray :: cap) rfl ?_)
        | fail)
      refine (HF.out x HXM.out c wr HXA.out HI.out.2.1 HI.out.2.2).mono ?_
      rintro e w4 ⟨rfl, i4, f4⟩
      refine .inl ⟨_, rfl, ?_⟩
      have HF4 := hid (HI.out.2.2.trans' f4)
      have HI4 := hid i4
      have HLT := hid hlt
      clear f4 i4 hlt
      cases hq : q x with
      | true =>
        have HQ := hid hq
        clear hq
        go_wp2_with fail
        go_ret
        exact ⟨by rw [← HR.out, idx_at HI.out.1 HXX.out HQ.out]; rfl, HI4.out, HF4.out⟩
      | false =>
        have HQ := hid hq
        clear hq
        go_wp2_with fail
        go_roundw
        case rel => exact ⟨i + 1, by go_num, HLT.out, hid ⟨by rw [HNX.out, HQ.out]; rfl, HI4.out, HF4.out⟩⟩
        case measure => have := HLT.out; simp [intOf]; omega
    · obtain rfl : i = n := by omega
      go_wp2_with fail
      go_ret
      refine ⟨?_, HI.out.2.1, HI.out.2.2⟩
      have h1 := HI.out.1
      rw [List.take_of_length_le (by rw [HNN.out]; exact Nat.le_refl _)] at h1
      rw [← HR.out, idx_none h1]
      rfl
set_option maxHeartbeats 8000000 in
theorem indexAt {α : Type} (f : FuncId) (cap : List Value) (q : α → Bool) (p : World → α → List Value → Prop) (D : Nat → Prop) (I : World → Prop) (E : Nat → Prop) (v0 : Value) (X : List α) (w : World) (hp : ∀ w w' x c, p w x c → Fr D w w' → p w' x c) (hD : ∀ i, E i → i < w.heap.size → ¬ D i) (hI : I w)
    (h0 : Sl 2 (p w) E w v0 X) (hent : ∀ (vs : Array Value) (w : World), (callFunc f vs).run Tryz.prog w = .ok (.enter f vs) w)
    (hf : ∀ x ∈ X, ∀ c wv, p wv x c → I wv → Fr D w wv → Calls Tryz.prog f (Value.agg c.toArray :: cap).toArray wv fun e w' => e = .returned (.bool (q x)) ∧ I w' ∧ Fr D wv w') :
    Calls Tryz.prog 101 #[v0, .func (.func f) #[] cap.toArray] w fun e w' => e = .returned (.int .i64 (idxI X q)) ∧ I w' ∧ Fr D w w' := by
  obtain ⟨a, c, rfl, -, hl0⟩ := h0.form
  have HX0 := hid h0
  obtain ⟨n, hn⟩ : ∃ n, X.length = n := ⟨_, rfl⟩
  rw [hn] at HX0 hl0 ⊢
  have HNN := hid hn; have HP := hid hp; have HE := hid hent; have HF := hid hf; have HD := hid hD; have HI0 := hid hI
  obtain ⟨R, hR⟩ : ∃ R, idxI X q = R := ⟨_, rfl⟩
  rw [hR]
  have HR := hid hR
  have hni : (n : Int) ≤ 140737488351232 := by omega
  clear hp h0 hent hf hn hR hD hI
  go_enter Tryz.func101, Tryz.ntmps101
  go_wp2_with fail
  go_loopw [8] (fun iv wr => ∃ (i : Nat), iv = .int .i64 i ∧ i ≤ n ∧ Hid ((X.take i).any q = false ∧ I wr ∧ Fr D w wr)) (fun iv _ => n - (intOf iv).toNat)
  case atStart => exact ⟨0, rfl, Nat.zero_le _, hid ⟨rfl, HI0.out, Fr.refl _ _⟩⟩
  case round =>
    obtain ⟨i, rfl, hi, HI⟩ := hrel
    by_cases hlt : i < n
    · have hiX : i < X.length := by rw [HNN.out]; exact hlt
      obtain ⟨x, hx⟩ : ∃ x, X[i]? = some x := ⟨_, List.getElem?_eq_getElem hiX⟩
      have HXM := hid (List.mem_of_getElem? hx)
      have HXX := hid hx
      have HNX : Hid ((X.take (i + 1)).any q = (q x || false)) := hid (by
        have hxx : X[i] = x := by rw [List.getElem?_eq_getElem hiX] at hx; exact Option.some.inj hx
        rw [List.take_succ_eq_append_getElem hiX, List.any_append, HI.out.1, hxx]; simp)
      have hlti : (i : Int) < n := by omega
      have hi0 : (0 : Int) ≤ i := by omega
      obtain ⟨g, o, cp, c, e1, hEg, hgw, hr, hc, hxa⟩ := (HX0.out.fr HI.out.2.2 HD.out (fun x c _ h => HP.out _ _ x c h HI.out.2.2)).get hx
      rw [HNN.out] at e1
      simp only [Value.slice.injEq, true_and] at e1
      obtain ⟨rfl, rfl⟩ := e1
      have HXA := hid hxa; have HC := hid hc; have HRR := hid hr
      have HI3 : Hid ((Tryz.prog.info? 64).map (·.size) = some c.length) := hid (by rw [hc]; exact infoAt)
      clear hc hEg hgw hr hxa hx
      go_wp2_with (first
        | ((with_reducible refine K.atO (.load 64 _) ?_); refine wpL_load rfl _ _ rfl g (o + i * 2) rfl c _ HRR.out rfl rfl HI3.out ?_)
        | ((with_reducible refine K.atO (.call { callee := .value _, args := _, argTypes := _ }) ?_); refine wpL_callP rfl _ [_] _ rfl f cap rfl HE.out (Value.agg c.toArray :: cap) rfl ?_)
        | fail)
      refine (HF.out x HXM.out c wr HXA.out HI.out.2.1 HI.out.2.2).mono ?_
      rintro e w4 ⟨rfl, i4, f4⟩
      refine .inl ⟨_, rfl, ?_⟩
      have HF4 := hid (HI.out.2.2.trans' f4)
      have HI4 := hid i4
      have HLT := hid hlt
      clear f4 i4 hlt
      cases hq : q x with
      | true =>
        have HQ := hid hq
        clear hq
        go_wp2_with fail
        go_ret
        exact ⟨by rw [← HR.out, idx_at HI.out.1 HXX.out HQ.out]; rfl, HI4.out, HF4.out⟩
      | false =>
        have HQ := hid hq
        clear hq
        go_wp2_with fail
        go_roundw
        case rel => exact ⟨i + 1, by go_num, HLT.out, hid ⟨by rw [HNX.out, HQ.out]; rfl, HI4.out, HF4.out⟩⟩
        case measure => have := HLT.out; simp [intOf]; omega
    · obtain rfl : i = n := by omega
      go_wp2_with fail
      go_ret
      refine ⟨?_, HI.out.2.1, HI.out.2.2⟩
      have h1 := HI.out.1
      rw [List.take_of_length_le (by rw [HNN.out]; exact Nat.le_refl _)] at h1
      rw [← HR.out, idx_none h1]
      rfl
set_option maxHeartbeats 8000000 in
theorem indexS {α : Type} (f : FuncId) (cap : List Value) (q : α → Bool) (p : World → α → Value → Prop) (D : Nat → Prop) (I : World → Prop) (E : Nat → Prop) (v0 : Value) (X : List α) (w : World) (hp : ∀ w w' x c, p w x c → Fr D w w' → p w' x c) (hD : ∀ i, E i → i < w.heap.size → ¬ D i) (hI : I w)
    (h0 : Sl 1 (fun x c => ∃ v, c = [v] ∧ p w x v) E w v0 X) (hent : ∀ (vs : Array Value) (w : World), (callFunc f vs).run Tryz.prog w = .ok (.enter f vs) w)
    (hf : ∀ x ∈ X, ∀ c wv, p wv x c → I wv → Fr D w wv → Calls Tryz.prog f (c :: cap).toArray wv fun e w' => e = .returned (.bool (q x)) ∧ I w' ∧ Fr D wv w') :
    Calls Tryz.prog 149 #[v0, .func (.func f) #[] cap.toArray] w fun e w' => e = .returned (.int .i64 (idxI X q)) ∧ I w' ∧ Fr D w w' := by
  obtain ⟨a, c, rfl, -, hl0⟩ := h0.form
  have HX0 := hid h0
  obtain ⟨n, hn⟩ : ∃ n, X.length = n := ⟨_, rfl⟩
  rw [hn] at HX0 hl0 ⊢
  have HNN := hid hn; have HP := hid hp; have HE := hid hent; have HF := hid hf; have HD := hid hD; have HI0 := hid hI
  obtain ⟨R, hR⟩ : ∃ R, idxI X q = R := ⟨_, rfl⟩
  rw [hR]
  have HR := hid hR
  have hni : (n : Int) ≤ 140737488351232 := by omega
  clear hp h0 hent hf hn hR hD hI
  go_enter Tryz.func149, Tryz.ntmps149
  go_wp2_with fail
  go_loopw [8] (fun iv wr => ∃ (i : Nat), iv = .int .i64 i ∧ i ≤ n ∧ Hid ((X.take i).any q = false ∧ I wr ∧ Fr D w wr)) (fun iv _ => n - (intOf iv).toNat)
  case atStart => exact ⟨0, rfl, Nat.zero_le _, hid ⟨rfl, HI0.out, Fr.refl _ _⟩⟩
  case round =>
    obtain ⟨i, rfl, hi, HI⟩ := hrel
    by_cases hlt : i < n
    · have hiX : i < X.length := by rw [HNN.out]; exact hlt
      obtain ⟨x, hx⟩ : ∃ x, X[i]? = some x := ⟨_, List.getElem?_eq_getElem hiX⟩
      have HXM := hid (List.mem_of_getElem? hx)
      have HXX := hid hx
      have HNX : Hid ((X.take (i + 1)).any q = (q x || false)) := hid (by
        have hxx : X[i] = x := by rw [List.getElem?_eq_getElem hiX] at hx; exact Option.some.inj hx
        rw [List.take_succ_eq_append_getElem hiX, List.any_append, HI.out.1, hxx]; simp)
      have hlti : (i : Int) < n := by omega
      have hi0 : (0 : Int) ≤ i := by omega
      obtain ⟨g, o, cp, c, e1, hEg, hgw, hr, hc, hxa⟩ := (Sl.fr (p' := fun x c => ∃ v, c = [v] ∧ p wr x v) HX0.out HI.out.2.2 HD.out (fun x c _ h => ⟨h.choose, h.choose_spec.1, HP.out _ _ x _ h.choose_spec.2 HI.out.2.2⟩)).get hx
      rw [HNN.out] at e1
      simp only [Value.slice.injEq, true_and] at e1
      obtain ⟨rfl, rfl⟩ := e1
      obtain ⟨c, rfl, hxa⟩ := hxa
      have hcell : wr.cell? ⟨g, o + i, none⟩ = some c := by have := hr 0 c rfl; simpa using this
      have HXA := hid hxa
      clear hc hEg hgw hr hxa hx
      go_wp2_with (first
        | ((with_reducible refine K.atO (.call { callee := .value _, args := _, argTypes := _ }) ?_); refine wpL_callP rfl _ [_] _ rfl f cap rfl HE.out (c :: cap) rfl ?_)
        | fail)
      refine (HF.out x HXM.out c wr HXA.out HI.out.2.1 HI.out.2.2).mono ?_
      rintro e w4 ⟨rfl, i4, f4⟩
      refine .inl ⟨_, rfl, ?_⟩
      have HF4 := hid (HI.out.2.2.trans' f4)
      have HI4 := hid i4
      have HLT := hid hlt
      clear f4 i4 hlt
      cases hq : q x with
      | true =>
        have HQ := hid hq
        clear hq
        go_wp2_with fail
        go_ret
        exact ⟨by rw [← HR.out, idx_at HI.out.1 HXX.out HQ.out]; rfl, HI4.out, HF4.out⟩
      | false =>
        have HQ := hid hq
        clear hq
        go_wp2_with fail
        go_roundw
        case rel => exact ⟨i + 1, by go_num, HLT.out, hid ⟨by rw [HNX.out, HQ.out]; rfl, HI4.out, HF4.out⟩⟩
        case measure => have := HLT.out; simp [intOf]; omega
    · obtain rfl : i = n := by omega
      go_wp2_with fail
      go_ret
      refine ⟨?_, HI.out.2.1, HI.out.2.2⟩
      have h1 := HI.out.1
      rw [List.take_of_length_le (by rw [HNN.out]; exact Nat.le_refl _)] at h1
      rw [← HR.out, idx_none h1]
      rfl
theorem containsS {α : Type} (f : FuncId) (cap : List Value) (q : α → Bool) (p : World → α → Value → Prop) (D : Nat → Prop) (I : World → Prop) (E : Nat → Prop) (v0 : Value) (X : List α) (w : World) (hp : ∀ w w' x c, p w x c → Fr D w w' → p w' x c) (hD : ∀ i, E i → i < w.heap.size → ¬ D i) (hI : I w)
    (h0 : Sl 1 (fun x c => ∃ v, c = [v] ∧ p w x v) E w v0 X) (hent : ∀ (vs : Array Value) (w : World), (callFunc f vs).run Tryz.prog w = .ok (.enter f vs) w)
    (hf : ∀ x ∈ X, ∀ c wv, p wv x c → I wv → Fr D w wv → Calls Tryz.prog f (c :: cap).toArray wv fun e w' => e = .returned (.bool (q x)) ∧ I w' ∧ Fr D wv w') :
    Calls Tryz.prog 126 #[v0, .func (.func f) #[] cap.toArray] w fun e w' => e = .returned (.bool (X.any q)) ∧ I w' ∧ Fr D w w' := by
  have H := hid (indexS f cap q p D I E v0 X w hp hD hI h0 hent hf)
  obtain ⟨a, c, rfl, -, -⟩ := h0.form
  obtain ⟨R, hR⟩ : ∃ R, X.any q = R := ⟨_, rfl⟩
  obtain ⟨m, hm⟩ : ∃ m, idxI X q = m := ⟨_, rfl⟩
  have HM : Hid (decide (0 ≤ m) = R) := hid (by rw [← hm, ← hR]; exact idx_any X q)
  obtain ⟨n, hn⟩ : ∃ n, X.length = n := ⟨_, rfl⟩
  rw [hm, hn] at H
  rw [hR, hn]
  clear hp h0 hent hf hR hn hm hD hI
  go_enter Tryz.func126, Tryz.ntmps126
  go_wp2_with fail
  refine H.out.mono ?_
  rintro e w2 ⟨rfl, i2, f2⟩
  have HF := hid f2; have HI2 := hid i2
  clear f2 i2
  go_wp2_with fail
  go_ret
  exact ⟨by rw [← HM.out]; rfl, HI2.out, HF.out⟩
set_option maxHeartbeats 8000000 in
theorem indexN {α : Type} (f : FuncId) (cap : List Value) (q : α → Bool) (p : World → α → Value → Prop) (D : Nat → Prop) (I : World → Prop) (E : Nat → Prop) (v0 : Value) (X : List α) (w : World) (hp : ∀ w w' x c, p w x c → Fr D w w' → p w' x c) (hD : ∀ i, E i → i < w.heap.size → ¬ D i) (hI : I w)
    (h0 : Sl 1 (fun x c => ∃ v, c = [v] ∧ p w x v) E w v0 X) (hent : ∀ (vs : Array Value) (w : World), (callFunc f vs).run Tryz.prog w = .ok (.enter f vs) w)
    (hf : ∀ x ∈ X, ∀ c wv, p wv x c → I wv → Fr D w wv → Calls Tryz.prog f (c :: cap).toArray wv fun e w' => e = .returned (.bool (q x)) ∧ I w' ∧ Fr D wv w') :
    Calls Tryz.prog 137 #[v0, .func (.func f) #[] cap.toArray] w fun e w' => e = .returned (.int .i64 (idxI X q)) ∧ I w' ∧ Fr D w w' := by
  obtain ⟨a, c, rfl, -, hl0⟩ := h0.form
  have HX0 := hid h0
  obtain ⟨n, hn⟩ : ∃ n, X.length = n := ⟨_, rfl⟩
  rw [hn] at HX0 hl0 ⊢
  have HNN := hid hn; have HP := hid hp; have HE := hid hent; have HF := hid hf; have HD := hid hD; have HI0 := hid hI
  obtain ⟨R, hR⟩ : ∃ R, idxI X q = R := ⟨_, rfl⟩
  rw [hR]
  have HR := hid hR
  have hni : (n : Int) ≤ 140737488351232 := by omega
  clear hp h0 hent hf hn hR hD hI
  go_enter Tryz.func137, Tryz.ntmps137
  go_wp2_with fail
  go_loopw [8] (fun iv wr => ∃ (i : Nat), iv = .int .i64 i ∧ i ≤ n ∧ Hid ((X.take i).any q = false ∧ I wr ∧ Fr D w wr)) (fun iv _ => n - (intOf iv).toNat)
  case atStart => exact ⟨0, rfl, Nat.zero_le _, hid ⟨rfl, HI0.out, Fr.refl _ _⟩⟩
  case round =>
    obtain ⟨i, rfl, hi, HI⟩ := hrel
    by_cases hlt : i < n
    · have hiX : i < X.length := by rw [HNN.out]; exact hlt
      obtain ⟨x, hx⟩ : ∃ x, X[i]? = some x := ⟨_, List.getElem?_eq_getElem hiX⟩
      have HXM := hid (List.mem_of_getElem? hx)
      have HXX := hid hx
      have HNX : Hid ((X.take (i + 1)).any q = (q x || false)) := hid (by
        have hxx : X[i] = x := by rw [List.getElem?_eq_getElem hiX] at hx; exact Option.some.inj hx
        rw [List.take_succ_eq_append_getElem hiX, List.any_append, HI.out.1, hxx]; simp)
      have hlti : (i : Int) < n := by omega
      have hi0 : (0 : Int) ≤ i := by omega
      obtain ⟨g, o, cp, c, e1, hEg, hgw, hr, hc, hxa⟩ := (Sl.fr (p' := fun x c => ∃ v, c = [v] ∧ p wr x v) HX0.out HI.out.2.2 HD.out (fun x c _ h => ⟨h.choose, h.choose_spec.1, HP.out _ _ x _ h.choose_spec.2 HI.out.2.2⟩)).get hx
      rw [HNN.out] at e1
      simp only [Value.slice.injEq, true_and] at e1
      obtain ⟨rfl, rfl⟩ := e1
      obtain ⟨c, rfl, hxa⟩ := hxa
      have hcell : wr.cell? ⟨g, o + i, none⟩ = some c := by have := hr 0 c rfl; simpa using this
      have HXA := hid hxa
      clear hc hEg hgw hr hxa hx
      go_wp2_with (first
        | ((with_reducible refine K.atO (.call { callee := .value _, args := _, argTypes := _ }) ?_); refine wpL_callP rfl _ [_] _ rfl f cap rfl HE.out (c :: cap) rfl ?_)
        | fail)
      refine (HF.out x HXM.out c wr HXA.out HI.out.2.1 HI.out.2.2).mono ?_
      rintro e w4 ⟨rfl, i4, f4⟩
      refine .inl ⟨_, rfl, ?_⟩
      have HF4 := hid (HI.out.2.2.trans' f4)
      have HI4 := hid i4
      have HLT := hid hlt
      clear f4 i4 hlt
      cases hq : q x with
      | true =>
        have HQ := hid hq
        clear hq
        go_wp2_with fail
        go_ret
        exact ⟨by rw [← HR.out, idx_at HI.out.1 HXX.out HQ.out]; rfl, HI4.out, HF4.out⟩
      | false =>
        have HQ := hid hq
        clear hq
        go_wp2_with fail
        go_roundw
        case rel => exact ⟨i + 1, by go_num, HLT.out, hid ⟨by rw [HNX.out, HQ.out]; rfl, HI4.out, HF4.out⟩⟩
        case measure => have := HLT.out; simp [intOf]; omega
    · obtain rfl : i = n := by omega
      go_wp2_with fail
      go_ret
      refine ⟨?_, HI.out.2.1, HI.out.2.2⟩
      have h1 := HI.out.1
      rw [List.take_of_length_le (by rw [HNN.out]; exact Nat.le_refl _)] at h1
      rw [← HR.out, idx_none h1]
      rfl
theorem containsN {α : Type} (f : FuncId) (cap : List Value) (q : α → Bool) (p : World → α → Value → Prop) (D : Nat → Prop) (I : World → Prop) (E : Nat → Prop) (v0 : Value) (X : List α) (w : World) (hp : ∀ w w' x c, p w x c → Fr D w w' → p w' x c) (hD : ∀ i, E i → i < w.heap.size → ¬ D i) (hI : I w)
    (h0 : Sl 1 (fun x c => ∃ v, c = [v] ∧ p w x v) E w v0 X) (hent : ∀ (vs : Array Value) (w : World), (callFunc f vs).run Tryz.prog w = .ok (.enter f vs) w)
    (hf : ∀ x ∈ X, ∀ c wv, p wv x c → I wv → Fr D w wv → Calls Tryz.prog f (c :: cap).toArray wv fun e w' => e = .returned (.bool (q x)) ∧ I w' ∧ Fr D wv w') :
    Calls Tryz.prog 103 #[v0, .func (.func f) #[] cap.toArray] w fun e w' => e = .returned (.bool (X.any q)) ∧ I w' ∧ Fr D w w' := by
  have H := hid (indexN f cap q p D I E v0 X w hp hD hI h0 hent hf)
  obtain ⟨a, c, rfl, -, -⟩ := h0.form
  obtain ⟨R, hR⟩ : ∃ R, X.any q = R := ⟨_, rfl⟩
  obtain ⟨m, hm⟩ : ∃ m, idxI X q = m := ⟨_, rfl⟩
  have HM : Hid (decide (0 ≤ m) = R) := hid (by rw [← hm, ← hR]; exact idx_any X q)
  obtain ⟨n, hn⟩ : ∃ n, X.length = n := ⟨_, rfl⟩
  rw [hm, hn] at H
  rw [hR, hn]
  clear hp h0 hent hf hR hn hm hD hI
  go_enter Tryz.func103, Tryz.ntmps103
  go_wp2_with fail
  refine H.out.mono ?_
  rintro e w2 ⟨rfl, i2, f2⟩
  have HF := hid f2; have HI2 := hid i2
  clear f2 i2
  go_wp2_with fail
  go_ret
  exact ⟨by rw [← HM.out]; rfl, HI2.out, HF.out⟩
end Go.Proofs.YtooodoacpdhbfaaGreatDoor.SC

namespace Go.Proofs.YtooodoacpdhbfaaGreatDoor.SC
set_option maxRecDepth 100000
open Go.RowKit K Go.Proofs.YtooodoacpdhbfaaGreatDoor.BE Go.Proofs.YtooodoacpdhbfaaGreatDoor.DN

set_option maxHeartbeats 4000000 in
theorem slower_any (s : B) (hs : Sz s) (w : World) : Calls Tryz.prog 90 #[.string (sb s)] w fun e w' => e = .returned (.string (sb (low s))) ∧ Fr No w w' := by
  have hz : (sb s).size = s.length := sb_size s
  have hzl : (sb s).data.toList = s := sb_list s
  obtain ⟨S, hS⟩ : ∃ S, sb s = S := ⟨_, rfl⟩
  obtain ⟨n, hn⟩ : ∃ n, s.length = n := ⟨_, rfl⟩
  rw [hS] at hz hzl ⊢
  rw [hn] at hz
  have hni : (n : Int) ≤ 140737488351232 := by unfold Sz at hs; omega
  have HNN := hid hn; have HZL := hid hzl; have HZ := hid hz
  clear hs hz hzl hS hn
  go_enter Tryz.func90, Tryz.ntmps90
  go_wp2_with (first
    | ((with_reducible refine K.atO (.convert _ 120 _) ?_); refine wpL_bytesF rfl _ _ _ _ rfl S rfl Tryz.underlying9 Tryz.underlying120 Tryz.underlying5 ?_; intro cp z w1 hcp HB1 HF1; rw [HZ.out])
    | fail)
  obtain ⟨g, hg⟩ : ∃ g, w.heap.size = g := ⟨_, rfl⟩
  rw [hg] at HB1 ⊢
  rw [HZL.out] at HB1
  have HG := hid hg
  have HCP := hid hcp
  clear hg hcp
  go_loopw [10] (fun iv wr => ∃ (i : Nat), iv = .int .i64 i ∧ i ≤ n ∧ Hid (BlkF wr g 5 (u8s (low (s.take i) ++ s.drop i) ++ z) ∧ Fr No w wr)) (fun iv _ => n - (intOf iv).toNat)
  case atStart => exact ⟨0, rfl, Nat.zero_le _, hid ⟨by simpa [low] using HB1.out, HF1.out⟩⟩
  case round =>
    obtain ⟨i, rfl, hi, HI⟩ := hrel
    by_cases hlt : i < n
    · have hlti : (i : Int) < n := by omega
      have hi0 : (0 : Int) ≤ i := by omega
      obtain ⟨c, hc⟩ : ∃ c, s[i]? = some c := ⟨_, List.getElem?_eq_getElem (by rw [HNN.out]; exact hlt)⟩
      have hlow : (low (s.take i)).length = i := by rw [low_length, List.length_take, HNN.out]; omega
      have hcur : (u8s (low (s.take i) ++ s.drop i) ++ z)[i]? = some (.int .u8 (c.toNat : Int)) := by
        rw [List.getElem?_append_left (by rw [u8s_length, List.length_append, hlow, List.length_drop, HNN.out]; omega)]
        unfold u8s
        rw [List.getElem?_map, List.getElem?_append_right (by omega), hlow, Nat.sub_self, List.getElem?_drop, Nat.add_zero, hc]
        rfl
      have hcell : wr.cell? ⟨g, i, none⟩ = some (.int .u8 (c.toNat : Int)) := by rw [HI.out.1.cell]; exact hcur
      have hsplit : s.drop i = c :: s.drop (i + 1) := by
        have hl : i < s.length := by rw [HNN.out]; exact hlt
        rw [List.drop_eq_getElem_cons hl]
        rw [List.getElem?_eq_getElem hl] at hc
        rw [Option.some.inj hc]
      have htake : low (s.take (i + 1)) = low (s.take i) ++ [lo c] := by
        unfold low
        rw [List.take_add_one, hc]
        simp
      have hset : (u8s (low (s.take i) ++ s.drop i) ++ z).set i (.int .u8 ((lo c).toNat : Int)) = u8s (low (s.take (i + 1)) ++ s.drop (i + 1)) ++ z := by
        rw [htake, hsplit, u8s_append, List.append_assoc, List.set_append_right _ _ (by rw [u8s_length, hlow]; exact Nat.le_refl _), u8s_length, hlow, Nat.sub_self]
        simp [u8s]
      have hlen : i < (u8s (low (s.take i) ++ s.drop i) ++ z).length := (List.getElem?_eq_some_iff.1 hcur).1
      have HSET := hid hset; have HLEN := hid hlen
      have hlo := lo_nat c
      obtain ⟨xn, hxn⟩ : ∃ xn, c.toNat = xn := ⟨_, rfl⟩
      have hb := lt256 c
      rw [hxn] at hcell hlo hb
      have HLT := hid hlt
      have HFS : Hid (∀ w', Fr (fun k => k = g) wr w' → Fr No w w') := hid (fun w' h => HI.out.2.trans h (fun k e => .inr (by rw [HG.out]; have e : k = g := e; omega)))
      clear hcur hsplit htake hset hlen hc hlow hi hlt
      by_cases hup : 65 ≤ xn ∧ xn ≤ 90
      · rw [if_pos hup] at hlo
        have h1 : (65 : Int) ≤ xn := by omega
        have h2 : (xn : Int) ≤ 90 := by omega
        have HLO := hid hlo
        clear hup hlo hxn
        go_wp2_with (first
          | ((with_reducible refine K.atO (.store 5 _ _) ?_); refine wpL_setF rfl _ _ _ rfl g i (.int .u8 ((lo c).toNat : Int)) (by go_simp) (by rw [HLO.out]; exact congrArg (Value.int .u8) (by omega)) rfl rfl 5 _ HI.out.1 HLEN.out infoU8 ?_; intro w2 HB2 HF2)
          | fail)
        refine ⟨⟨i + 1, by go_num, HLT.out, hid ⟨by rw [← HSET.out]; exact HB2.out, HFS.out w2 HF2.out⟩⟩, ?_⟩
        have := HLT.out
        simp [intOf]; omega
      · rw [if_neg hup] at hlo
        have h1 : (xn : Int) < 65 ∨ (65 ≤ (xn : Int) ∧ ¬ (xn : Int) ≤ 90) := by omega
        have HSAME : Hid (BlkF wr g 5 (u8s (low (s.take (i + 1)) ++ s.drop (i + 1)) ++ z)) := hid (by
          rw [← HSET.out, hlo, ← hxn]
          have h := HI.out.1
          have hce := h.cell i
          rw [hxn] at *
          rw [hcell] at hce
          obtain ⟨hl, e⟩ := List.getElem?_eq_some_iff.1 hce.symm
          rw [← e, List.set_getElem_self]
          exact h)
        clear hup hlo hxn
        rcases h1 with h1 | ⟨h1, h2⟩
        all_goals
          go_wp2_with fail
          refine ⟨⟨i + 1, by go_num, HLT.out, hid ⟨HSAME.out, HI.out.2⟩⟩, ?_⟩
          have := HLT.out
          simp [intOf]; omega
    · obtain rfl : i = n := by omega
      have hB := HI.out.1
      rw [← HNN.out, List.take_length, List.drop_length, List.append_nil] at hB
      have hbi : BytesIn wr (fun _ => True) (.slice (some ⟨g, 0, none⟩) i cp) (low s) := by
        refine ⟨_, _, _, rfl, by rw [low_length]; exact HNN.out, (by have := HCP.out; rw [HZ.out] at this; exact this), .inr ⟨g, 0, rfl, trivial, hB.lt, ?_⟩⟩
        intro j v hj
        rw [Nat.zero_add, hB.cell, List.getElem?_append_left (List.getElem?_eq_some_iff.1 hj).1]
        exact hj
      have HBI := hid hbi
      clear hB hbi hi hlt
      go_wp2_with (first
        | ((with_reducible refine K.atO (.convert _ 9 _) ?_); refine wpL_stringOf rfl _ _ _ _ rfl _ _ (low s) rfl HBI.out Tryz.underlying120 Tryz.underlying5 Tryz.underlying9 ?_)
        | fail)
      go_ret
      exact ⟨rfl, HI.out.2⟩
set_option maxHeartbeats 4000000 in
theorem typeName_any (t : B) (r : List Value) (hr : r.length = 5) (w : World) : Calls Tryz.prog 120 #[.agg (Value.string (sb t) :: r).toArray] w fun e w' => e = .returned (.string (sb t)) ∧ Fr No w w' := by
  obtain ⟨r1, r2, r3, r4, r5, rfl⟩ : ∃ r1 r2 r3 r4 r5, r = [r1, r2, r3, r4, r5] := by
    match r, hr with
    | [r1, r2, r3, r4, r5], _ => exact ⟨r1, r2, r3, r4, r5, rfl⟩
  go_enter Tryz.func120, Tryz.ntmps120
  go_wp2_with (first
    | ((with_reducible refine K.atO (.box 39 _) ?_); refine wpL_box rfl _ _ rfl _ rfl [.string (sb t), r1, r2, r3, r4, r5] rfl ?_; intro w1 HB1 HF1 HS1; refine Hid.out ?_)
    | fail)
  obtain ⟨g, hg⟩ : ∃ g, w.heap.size = g := ⟨_, rfl⟩
  rw [hg] at HB1 ⊢
  have c0 : w1.cell? ⟨g, 0, none⟩ = some (.string (sb t)) := HB1.out.cell 0
  refine hid ?_
  go_wp2_with fail
  go_ret
  exact ⟨rfl, HF1.out⟩
set_option maxHeartbeats 4000000 in
theorem className_any (t : B) (r : List Value) (hr : r.length = 4) (w : World) : Calls Tryz.prog 124 #[.agg (Value.string (sb t) :: r).toArray] w fun e w' => e = .returned (.string (sb t)) ∧ Fr No w w' := by
  obtain ⟨r1, r2, r3, r4, rfl⟩ : ∃ r1 r2 r3 r4, r = [r1, r2, r3, r4] := by
    match r, hr with
    | [r1, r2, r3, r4], _ => exact ⟨r1, r2, r3, r4, rfl⟩
  go_enter Tryz.func124, Tryz.ntmps124
  go_wp2_with (first
    | ((with_reducible refine K.atO (.box 44 _) ?_); refine wpL_box rfl _ _ rfl _ rfl [.string (sb t), r1, r2, r3, r4] rfl ?_; intro w1 HB1 HF1 HS1; refine Hid.out ?_)
    | fail)
  obtain ⟨g, hg⟩ : ∃ g, w.heap.size = g := ⟨_, rfl⟩
  rw [hg] at HB1 ⊢
  have c0 : w1.cell? ⟨g, 0, none⟩ = some (.string (sb t)) := HB1.out.cell 0
  refine hid ?_
  go_wp2_with fail
  go_ret
  exact ⟨rfl, HF1.out⟩
theorem low_dec' (p q : B) : decide (low p = low q) = (low p == low q) := by
  rw [Bool.eq_iff_iff]
  simp
/-- What looks for a name: is it this one's? -/
theorem findTy1_any (n key : B) (r : List Value) (hr : r.length = 5) (b1 b2 : Nat) (w : World) (h1 : Blk w b1 177 [.func (.func 120) #[] #[]]) (h2 : Blk w b2 9 [.string (sb (low key))]) (hn : Sz n) :
    Calls Tryz.prog 147 #[.agg (Value.string (sb n) :: r).toArray, .pointer (some ⟨b1, 0, none⟩), .pointer (some ⟨b2, 0, none⟩)] w fun e w' => e = .returned (.bool (low n == low key)) ∧ Fr No w w' := by
  rw [← low_dec']
  have H1 := hid h1; have H2 := hid h2; have HN := hid hn
  have HI3 : Hid ((Tryz.prog.info? 39).map (·.size) = some (Value.string (sb n) :: r).length) := hid (by rw [List.length_cons, hr]; exact infoTy)
  have HR := hid hr
  clear h1 h2 hn hr
  go_enter Tryz.func147, Tryz.ntmps147
  go_wp2_with (first
    | ((with_reducible refine K.atO (.box 39 _) ?_); refine wpL_box rfl _ _ rfl _ rfl (Value.string (sb n) :: r) rfl ?_; intro w1 HB1 HF1 HS1)
    | fail)
  obtain ⟨g, hg⟩ : ∃ g, w.heap.size = g := ⟨_, rfl⟩
  rw [hg] at HB1 ⊢
  have HG : Hid (∀ k, k < w.heap.size → k ≠ g) := hid (fun k hk => by omega)
  clear hg
  have c1 : w1.cell? ⟨b1, 0, none⟩ = some (.func (.func 120) #[] #[]) := (H1.out.fr HF1.out id).cell 0
  have c2 : w1.cell? ⟨b2, 0, none⟩ = some (.string (sb (low key))) := (H2.out.fr HF1.out id).cell 0
  have c3 : w1.rangeAt g 0 (Value.string (sb n) :: r) := HB1.out.range 0 _ (by rw [List.drop_zero, List.take_length])
  have hold : Facts.hold [(0, fun w' => w'.cell? ⟨b1, 0, none⟩ = some (.func (.func 120) #[] #[])), (1, fun w' => w'.rangeAt g 0 (Value.string (sb n) :: r)), (4, fun w' => w'.cell? ⟨b2, 0, none⟩ = some (.string (sb (low key))))] w1.drew := Facts.cons_hold c1 (Facts.cons_hold c3 (Facts.cons_hold c2 (Facts.nil_hold _)))
  refine wpD_region hold (by kernel_rfl) 7 rfl ?_
  (refine wpD_take 0 _ rfl (by kernel_rfl) (by kernel_rfl) (by kernel_rfl) (fun _ _ _ h => h) List.mem_cons_self (by rfl) (v := ?_) ?_ (by assumption) ?_; rotate_left; (intro _w _hw; go_simp; try with_reducible rfl); simp only [Act.put, K.put3])
  (refine wpD_take 1 _ rfl (by kernel_rfl) (by kernel_rfl) (by kernel_rfl) (fun _ _ _ h => h) (List.mem_cons_of_mem _ List.mem_cons_self) (by rfl) (exec_load _ _ rfl g 0 rfl _ _ rfl rfl HI3.out) (by assumption) ?_; simp only [Act.put, K.put3])
  (refine wpD_take 4 _ rfl (by kernel_rfl) (by kernel_rfl) (by kernel_rfl) (fun _ _ _ h => h) (List.mem_cons_of_mem _ (List.mem_cons_of_mem _ List.mem_cons_self)) (by rfl) (v := ?_) ?_ (by assumption) ?_; rotate_left; (intro _w _hw; go_simp; try with_reducible rfl); simp only [Act.put, K.put3])
  clear hold
  refine wpD_only 2 [(4, fun w' => w'.cell? ⟨b2, 0, none⟩ = some (.string (sb (low key))))] rfl (by kernel_rfl) (by kernel_rfl) (by rfl) (fun K2 hK2 => ?_)
  refine wp_call _ [_] _ rfl 120 [] rfl (fun vs w => by kernel_rfl) [.agg (Value.string (sb n) :: r).toArray] (by rfl) ?_
  refine (typeName_any n r HR.out w1.drew).mono ?_
  rintro e w2 ⟨rfl, f2⟩
  have c22 : w2.cell? ⟨b2, 0, none⟩ = some (.string (sb (low key))) := f2.cell (show w1.drew.cell? _ = _ from c2) id
  have HF2 := hid (HF1.out.trans' ((Fr.refl No w1).drew.trans' f2))
  refine ⟨_, rfl, hK2 _ _ (Facts.cons_hold c22 (Facts.nil_hold _)) ?_⟩
  clear hK2 K2 f2
  simp only [Act.put, K.put3]
  refine wpD_only 3 [(4, fun w' => w'.cell? ⟨b2, 0, none⟩ = some (.string (sb (low key))))] rfl (by kernel_rfl) (by kernel_rfl) (by rfl) (fun K3 hK3 => ?_)
  refine wp_call _ _ _ rfl 90 [] rfl (fun vs w => by kernel_rfl) [.string (sb n)] (by rfl) ?_
  refine (slower_any n HN.out w2).mono ?_
  rintro e w3 ⟨rfl, f3⟩
  have c23 : w3.cell? ⟨b2, 0, none⟩ = some (.string (sb (low key))) := f3.cell c22 id
  have HF3 := hid (HF2.out.trans' f3)
  refine ⟨_, rfl, hK3 _ _ (Facts.cons_hold c23 (Facts.nil_hold _)) ?_⟩
  clear hK3 K3 f3
  simp only [Act.put, K.put3]
  have hold : Facts.hold [(4, fun w' => w'.cell? ⟨b2, 0, none⟩ = some (.string (sb (low key))))] w3 := Facts.cons_hold c23 (Facts.nil_hold _)
  (refine wpD_plain 5 (v := (.bool (decide (low n = low key)))) rfl (by kernel_rfl) (by kernel_rfl) (by kernel_rfl) (fun _ _ _ h => h) (by rfl) ?_ (by assumption) ?_; (intro _w; exact exec_eqS _ _ _ rfl _ _ rfl rfl _w); simp only [Act.put, K.put3])
  (refine wpD_plain 6 (v := ?_) rfl (by kernel_rfl) (by kernel_rfl) (by kernel_rfl) (fun _ _ _ h => h) (by rfl) ?_ (by assumption) ?_; rotate_left; (intro _w; go_simp; try with_reducible rfl); simp only [Act.put, K.put3])
  clear hold
  refine wpD_done (by kernel_rfl) ?_ _
  go_wp2_with fail
  go_ret
  exact ⟨rfl, HF3.out⟩
set_option maxHeartbeats 4000000 in
/-- The place of a name, or -1. -/
theorem findTy_any {S : Nat → Prop} (s : B) (v : Value) (X : List Ty) (w : World) (h : TysIn S w v X) (hs : Sz s) :
    Calls Tryz.prog 122 #[.string (sb s), v, .func (.func 120) #[] #[]] w fun e w' => e = .returned (.int .i64 (idxI X fun x => low x.nm == low s)) ∧ Fr No w w' := by
  have HX := hid h; have HS := hid hs
  obtain ⟨a, c, rfl, hcap, hl⟩ := h.form
  obtain ⟨R, hR⟩ : ∃ R, idxI X (fun x => low x.nm == low s) = R := ⟨_, rfl⟩
  rw [hR]
  have HR := hid hR
  obtain ⟨n, hn⟩ : ∃ n, X.length = n := ⟨_, rfl⟩
  rw [hn] at HX ⊢
  clear h hs hR hn hcap hl
  go_enter Tryz.func122, Tryz.ntmps122
  go_wp2_with (first
    | ((with_reducible refine K.atO (.box 177 _) ?_); refine wpL_box rfl _ _ rfl _ rfl [.func (.func 120) #[] #[]] rfl ?_; intro w1 HB1 HF1 HS1)
    | (go_at_call 90; refine (slower_any s HS.out _).mono ?_; rintro e w2 ⟨rfl, f2⟩; have HF2 := hid f2; clear f2)
    | ((with_reducible refine K.atO (.alloc 9) ?_); refine wpL_alloc rfl _ rfl _ zeroS [.string ⟨#[]⟩] rfl ?_; intro w3 HB3 HF3 HS3)
    | ((with_reducible refine K.atO (.store 9 _ _) ?_); refine wpL_setV rfl _ _ _ rfl _ 0 (.string (sb (low s))) rfl rfl rfl rfl _ _ HB3.out (by decide) infoS ?_; intro w4 HB4 HF4 HS4; refine Hid.out ?_)
    | fail)
  have hF := ((HF1.out.trans' HF2.out).trans' HF3.out)
  have hF4 : Fr No w w4 := hF.trans HF4.out (fun k e => .inr (by rw [e]; have := hF.size; have := HF2.out.size; have := HF1.out.size; have := HS1.out; omega))
  have hb1 : Blk w4 w.heap.size 177 [.func (.func 120) #[] #[]] := ((HB1.out.fr HF2.out id).fr HF3.out id).fr HF4.out (by show ¬ w.heap.size = w2.heap.size; have := HF2.out.size; have := HS1.out; omega)
  have hb2 : Blk w4 w2.heap.size 9 [.string (sb (low s))] := HB4.out
  obtain ⟨g1, hg1⟩ : ∃ g, w.heap.size = g := ⟨_, rfl⟩
  obtain ⟨g2, hg2⟩ : ∃ g, w2.heap.size = g := ⟨_, rfl⟩
  rw [hg1] at hb1 ⊢
  rw [hg2] at hb2 ⊢
  have H := hid (indexTy 147 [.pointer (some ⟨g1, 0, none⟩), .pointer (some ⟨g2, 0, none⟩)] (fun x : Ty => low x.nm == low s) (fun w x c => (fun _ _ => TyC) S w x c) No (fun w' => Fr No w4 w') S _ X w4 (fun w w' x c h hf => h) (fun _ _ _ e => e) (Fr.refl _ _) (HX.out.fr hF4 (fun _ _ _ e => e)) (fun vs w => by kernel_rfl)
    (fun x _ c wv hp hi hf => by
      obtain ⟨r, rfl, hr, hsz⟩ := (show ∃ r, c = Value.string (sb x.nm) :: r ∧ r.length = 5 ∧ Sz x.nm from ⟨_, hp.1, rfl, hp.2⟩)
      exact (findTy1_any x.nm s r hr g1 g2 wv (hb1.fr hf id) (hb2.fr hf id) hsz).mono fun e w' ⟨h1, h2⟩ => ⟨h1, hi.trans' h2, h2⟩))
  rw [HR.out] at H
  have HF4' := hid hF4
  clear hF hF4 hb1 hb2 hg1 hg2
  refine hid ?_
  go_wp2_with fail
  refine H.out.mono ?_
  rintro e w5 ⟨rfl, -, f5⟩
  have HF5 := hid f5
  clear f5
  go_wp2_with fail
  go_ret
  exact ⟨rfl, HF4'.out.trans' HF5.out⟩
/-- What looks for a name: is it this one's? -/
theorem findCl1_any (n key : B) (r : List Value) (hr : r.length = 4) (b1 b2 : Nat) (w : World) (h1 : Blk w b1 180 [.func (.func 124) #[] #[]]) (h2 : Blk w b2 9 [.string (sb (low key))]) (hn : Sz n) :
    Calls Tryz.prog 167 #[.agg (Value.string (sb n) :: r).toArray, .pointer (some ⟨b1, 0, none⟩), .pointer (some ⟨b2, 0, none⟩)] w fun e w' => e = .returned (.bool (low n == low key)) ∧ Fr No w w' := by
  rw [← low_dec']
  have H1 := hid h1; have H2 := hid h2; have HN := hid hn
  have HI3 : Hid ((Tryz.prog.info? 44).map (·.size) = some (Value.string (sb n) :: r).length) := hid (by rw [List.length_cons, hr]; exact infoCl)
  have HR := hid hr
  clear h1 h2 hn hr
  go_enter Tryz.func167, Tryz.ntmps167
  go_wp2_with (first
    | ((with_reducible refine K.atO (.box 44 _) ?_); refine wpL_box rfl _ _ rfl _ rfl (Value.string (sb n) :: r) rfl ?_; intro w1 HB1 HF1 HS1)
    | fail)
  obtain ⟨g, hg⟩ : ∃ g, w.heap.size = g := ⟨_, rfl⟩
  rw [hg] at HB1 ⊢
  have HG : Hid (∀ k, k < w.heap.size → k ≠ g) := hid (fun k hk => by omega)
  clear hg
  have c1 : w1.cell? ⟨b1, 0, none⟩ = some (.func (.func 124) #[] #[]) := (H1.out.fr HF1.out id).cell 0
  have c2 : w1.cell? ⟨b2, 0, none⟩ = some (.string (sb (low key))) := (H2.out.fr HF1.out id).cell 0
  have c3 : w1.rangeAt g 0 (Value.string (sb n) :: r) := HB1.out.range 0 _ (by rw [List.drop_zero, List.take_length])
  have hold : Facts.hold [(0, fun w' => w'.cell? ⟨b1, 0, none⟩ = some (.func (.func 124) #[] #[])), (1, fun w' => w'.rangeAt g 0 (Value.string (sb n) :: r)), (4, fun w' => w'.cell? ⟨b2, 0, none⟩ = some (.string (sb (low key))))] w1.drew := Facts.cons_hold c1 (Facts.cons_hold c3 (Facts.cons_hold c2 (Facts.nil_hold _)))
  refine wpD_region hold (by kernel_rfl) 7 rfl ?_
  (refine wpD_take 0 _ rfl (by kernel_rfl) (by kernel_rfl) (by kernel_rfl) (fun _ _ _ h => h) List.mem_cons_self (by rfl) (v := ?_) ?_ (by assumption) ?_; rotate_left; (intro _w _hw; go_simp; try with_reducible rfl); simp only [Act.put, K.put3])
  (refine wpD_take 1 _ rfl (by kernel_rfl) (by kernel_rfl) (by kernel_rfl) (fun _ _ _ h => h) (List.mem_cons_of_mem _ List.mem_cons_self) (by rfl) (exec_load _ _ rfl g 0 rfl _ _ rfl rfl HI3.out) (by assumption) ?_; simp only [Act.put, K.put3])
  (refine wpD_take 4 _ rfl (by kernel_rfl) (by kernel_rfl) (by kernel_rfl) (fun _ _ _ h => h) (List.mem_cons_of_mem _ (List.mem_cons_of_mem _ List.mem_cons_self)) (by rfl) (v := ?_) ?_ (by assumption) ?_; rotate_left; (intro _w _hw; go_simp; try with_reducible rfl); simp only [Act.put, K.put3])
  clear hold
  refine wpD_only 2 [(4, fun w' => w'.cell? ⟨b2, 0, none⟩ = some (.string (sb (low key))))] rfl (by kernel_rfl) (by kernel_rfl) (by rfl) (fun K2 hK2 => ?_)
  refine wp_call _ [_] _ rfl 124 [] rfl (fun vs w => by kernel_rfl) [.agg (Value.string (sb n) :: r).toArray] (by rfl) ?_
  refine (className_any n r HR.out w1.drew).mono ?_
  rintro e w2 ⟨rfl, f2⟩
  have c22 : w2.cell? ⟨b2, 0, none⟩ = some (.string (sb (low key))) := f2.cell (show w1.drew.cell? _ = _ from c2) id
  have HF2 := hid (HF1.out.trans' ((Fr.refl No w1).drew.trans' f2))
  refine ⟨_, rfl, hK2 _ _ (Facts.cons_hold c22 (Facts.nil_hold _)) ?_⟩
  clear hK2 K2 f2
  simp only [Act.put, K.put3]
  refine wpD_only 3 [(4, fun w' => w'.cell? ⟨b2, 0, none⟩ = some (.string (sb (low key))))] rfl (by kernel_rfl) (by kernel_rfl) (by rfl) (fun K3 hK3 => ?_)
  refine wp_call _ _ _ rfl 90 [] rfl (fun vs w => by kernel_rfl) [.string (sb n)] (by rfl) ?_
  refine (slower_any n HN.out w2).mono ?_
  rintro e w3 ⟨rfl, f3⟩
  have c23 : w3.cell? ⟨b2, 0, none⟩ = some (.string (sb (low key))) := f3.cell c22 id
  have HF3 := hid (HF2.out.trans' f3)
  refine ⟨_, rfl, hK3 _ _ (Facts.cons_hold c23 (Facts.nil_hold _)) ?_⟩
  clear hK3 K3 f3
  simp only [Act.put, K.put3]
  have hold : Facts.hold [(4, fun w' => w'.cell? ⟨b2, 0, none⟩ = some (.string (sb (low key))))] w3 := Facts.cons_hold c23 (Facts.nil_hold _)
  (refine wpD_plain 5 (v := (.bool (decide (low n = low key)))) rfl (by kernel_rfl) (by kernel_rfl) (by kernel_rfl) (fun _ _ _ h => h) (by rfl) ?_ (by assumption) ?_; (intro _w; exact exec_eqS _ _ _ rfl _ _ rfl rfl _w); simp only [Act.put, K.put3])
  (refine wpD_plain 6 (v := ?_) rfl (by kernel_rfl) (by kernel_rfl) (by kernel_rfl) (fun _ _ _ h => h) (by rfl) ?_ (by assumption) ?_; rotate_left; (intro _w; go_simp; try with_reducible rfl); simp only [Act.put, K.put3])
  clear hold
  refine wpD_done (by kernel_rfl) ?_ _
  go_wp2_with fail
  go_ret
  exact ⟨rfl, HF3.out⟩
set_option maxHeartbeats 4000000 in
/-- The place of a name, or -1. -/
theorem findCl_any {S : Nat → Prop} (s : B) (v : Value) (X : List Cl) (w : World) (h : ClsIn S w v X) (hs : Sz s) :
    Calls Tryz.prog 148 #[.string (sb s), v, .func (.func 124) #[] #[]] w fun e w' => e = .returned (.int .i64 (idxI X fun x => low x.nm == low s)) ∧ Fr No w w' := by
  have HX := hid h; have HS := hid hs
  obtain ⟨a, c, rfl, hcap, hl⟩ := h.form
  obtain ⟨R, hR⟩ : ∃ R, idxI X (fun x => low x.nm == low s) = R := ⟨_, rfl⟩
  rw [hR]
  have HR := hid hR
  obtain ⟨n, hn⟩ : ∃ n, X.length = n := ⟨_, rfl⟩
  rw [hn] at HX ⊢
  clear h hs hR hn hcap hl
  go_enter Tryz.func148, Tryz.ntmps148
  go_wp2_with (first
    | ((with_reducible refine K.atO (.box 180 _) ?_); refine wpL_box rfl _ _ rfl _ rfl [.func (.func 124) #[] #[]] rfl ?_; intro w1 HB1 HF1 HS1)
    | (go_at_call 90; refine (slower_any s HS.out _).mono ?_; rintro e w2 ⟨rfl, f2⟩; have HF2 := hid f2; clear f2)
    | ((with_reducible refine K.atO (.alloc 9) ?_); refine wpL_alloc rfl _ rfl _ zeroS [.string ⟨#[]⟩] rfl ?_; intro w3 HB3 HF3 HS3)
    | ((with_reducible refine K.atO (.store 9 _ _) ?_); refine wpL_setV rfl _ _ _ rfl _ 0 (.string (sb (low s))) rfl rfl rfl rfl _ _ HB3.out (by decide) infoS ?_; intro w4 HB4 HF4 HS4; refine Hid.out ?_)
    | fail)
  have hF := ((HF1.out.trans' HF2.out).trans' HF3.out)
  have hF4 : Fr No w w4 := hF.trans HF4.out (fun k e => .inr (by rw [e]; have := hF.size; have := HF2.out.size; have := HF1.out.size; have := HS1.out; omega))
  have hb1 : Blk w4 w.heap.size 180 [.func (.func 124) #[] #[]] := ((HB1.out.fr HF2.out id).fr HF3.out id).fr HF4.out (by show ¬ w.heap.size = w2.heap.size; have := HF2.out.size; have := HS1.out; omega)
  have hb2 : Blk w4 w2.heap.size 9 [.string (sb (low s))] := HB4.out
  obtain ⟨g1, hg1⟩ : ∃ g, w.heap.size = g := ⟨_, rfl⟩
  obtain ⟨g2, hg2⟩ : ∃ g, w2.heap.size = g := ⟨_, rfl⟩
  rw [hg1] at hb1 ⊢
  rw [hg2] at hb2 ⊢
  have H := hid (indexCl 167 [.pointer (some ⟨g1, 0, none⟩), .pointer (some ⟨g2, 0, none⟩)] (fun x : Cl => low x.nm == low s) (fun w x c => ClC S w x c) No (fun w' => Fr No w4 w') S _ X w4 (fun w w' x c h hf => h.fr hf (fun _ _ _ e => e)) (fun _ _ _ e => e) (Fr.refl _ _) (HX.out.fr hF4 (fun _ _ _ e => e)) (fun vs w => by kernel_rfl)
    (fun x _ c wv hp hi hf => by
      obtain ⟨r, rfl, hr, hsz⟩ := (show ∃ r, c = Value.string (sb x.nm) :: r ∧ r.length = 4 ∧ Sz x.nm from by obtain ⟨v1, v2, e, h1, -⟩ := hp; exact ⟨_, e, rfl, h1⟩)
      exact (findCl1_any x.nm s r hr g1 g2 wv (hb1.fr hf id) (hb2.fr hf id) hsz).mono fun e w' ⟨h1, h2⟩ => ⟨h1, hi.trans' h2, h2⟩))
  rw [HR.out] at H
  have HF4' := hid hF4
  clear hF hF4 hb1 hb2 hg1 hg2
  refine hid ?_
  go_wp2_with fail
  refine H.out.mono ?_
  rintro e w5 ⟨rfl, -, f5⟩
  have HF5 := hid f5
  clear f5
  go_wp2_with fail
  go_ret
  exact ⟨rfl, HF4'.out.trans' HF5.out⟩
end Go.Proofs.YtooodoacpdhbfaaGreatDoor.SC
