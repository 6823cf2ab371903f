/-
  Package ber: Number; and what numbers' bytes are, as mathematics.
-/
import Derived.Test.YthnahoodgkeaiaaBeI
set_option linter.unusedVariables false
set_option linter.unusedSimpArgs false
namespace Go.Proofs.Ythnahoodgkeaiaa.BE
set_option maxRecDepth 100000
open Go.RowKit K

/-- What Number tells. -/
def numS (s : B) : Int × Bool := match s with
  | [] => (0, false)
  | b :: r => if 4 < s.length then (0, false) else if intS (joinI (sgn b) r) = s then (joinI (sgn b) r, true) else (0, false)

/-! ### Mathematics -/
theorem sgn_nat (b : UInt8) : sgn b = (b.toNat : Int) ∨ sgn b = (b.toNat : Int) - 256 := by unfold sgn; split <;> simp
theorem sgn_lim (b : UInt8) : -128 ≤ sgn b ∧ sgn b < 128 := by unfold sgn; have := lt256 b; split <;> omega
theorem byt_of (q : Int) (b : UInt8) : byt (q * 256 + b.toNat) = b := by
  have h := lt256 b
  unfold byt
  rw [show (q * 256 + (b.toNat : Int)) % 256 = b.toNat by omega]
  simp
theorem div_of (q : Int) (b : UInt8) : (q * 256 + (b.toNat : Int)) / 256 = q := by have h := lt256 b; omega
theorem join_zero : ∀ (l : B) (h : Int), joinI h l = 0 → h = 0
  | [], h, e => e
  | b :: r, h, e => by
    have := join_zero r _ e
    have hb := lt256 b
    omega
theorem join_one : ∀ (l : B) (h : Int), joinI h l = -1 → h = -1
  | [], h, e => e
  | b :: r, h, e => by
    have := join_one r _ e
    have hb := lt256 b
    omega
/-- Fewer would not do. -/
def minB (b : UInt8) : B → Bool
  | [] => true
  | c :: _ => !(decide (b.toNat = 0) && decide (c.toNat < 128) || decide (b.toNat = 255) && decide (128 ≤ c.toNat))
theorem snoc_ind {p : B → Prop} (h0 : p []) (hs : ∀ r c, p r → p (r ++ [c])) (l : B) : p l := by
  have key : ∀ l : B, p l.reverse := by
    intro l
    induction l with
    | nil => exact h0
    | cons c r ih => rw [List.reverse_cons]; exact hs _ _ ih
  have := key l.reverse
  rwa [List.reverse_reverse] at this
theorem int_join (b : UInt8) : ∀ (r : B) (f : Nat), r.length ≤ f → (minB b r = true → intG f (joinI (sgn b) r) = b :: r) ∧ (minB b r = false → (intG f (joinI (sgn b) r)).length ≤ r.length) := by
  refine snoc_ind ?_ ?_
  · intro f _
    have hb : byt (sgn b) = b := by
      have h := lt256 b
      rcases sgn_nat b with e | e
      · rw [e]; have := byt_of 0 b; simpa using this
      · rw [e]; have := byt_of (-1) b; rw [show (-1 : Int) * 256 + b.toNat = (b.toNat : Int) - 256 by omega] at this; exact this
    refine ⟨fun _ => ?_, fun h => by cases h⟩
    show intG f (sgn b) = [b]
    cases f with
    | zero => unfold intG; rw [hb]
    | succ f => unfold intG; rw [hb, if_pos rfl]
  · intro r c ih f hf
    rw [List.length_append] at hf
    obtain ⟨g, rfl⟩ : ∃ g, f = g + 1 := ⟨f - 1, by simp at hf; omega⟩
    have hg : r.length ≤ g := by simp at hf; omega
    have hc := lt256 c
    have hbl := lt256 b
    rw [joinI_snoc]
    obtain ⟨q, hq⟩ : ∃ q, joinI (sgn b) r = q := ⟨_, rfl⟩
    have hI := ih g hg
    rw [hq] at hI ⊢
    have hG : intG (g + 1) (q * 256 + c.toNat) = if q * 256 + (c.toNat : Int) = sgn c then [c] else intG g q ++ [c] := by
      show (if q * 256 + (c.toNat : Int) = sgn (byt (q * 256 + c.toNat)) then [byt (q * 256 + c.toNat)] else intG g ((q * 256 + (c.toNat : Int)) / 256) ++ [byt (q * 256 + c.toNat)]) = _
      rw [byt_of, div_of]
    by_cases he : q * 256 + (c.toNat : Int) = sgn c
    · rw [hG, if_pos he]
      have hmin : minB b (r ++ [c]) = false := by
        have h2 : (q = 0 ∧ c.toNat < 128) ∨ (q = -1 ∧ 128 ≤ c.toNat) := by
          unfold sgn at he
          split at he <;> omega
        cases r with
        | nil =>
          have hq' : sgn b = q := hq
          unfold sgn at hq'
          simp only [List.nil_append, minB, Bool.not_eq_false', Bool.or_eq_true, Bool.and_eq_true, decide_eq_true_eq]
          split at hq' <;> omega
        | cons d t =>
          have hq' : joinI (sgn b * 256 + d.toNat) t = q := hq
          have hd := lt256 d
          simp only [List.cons_append, minB, Bool.not_eq_false', Bool.or_eq_true, Bool.and_eq_true, decide_eq_true_eq]
          rcases h2 with ⟨h2, _⟩ | ⟨h2, _⟩
          · have := join_zero t _ (hq'.trans h2)
            unfold sgn at this
            split at this <;> omega
          · have := join_one t _ (hq'.trans h2)
            unfold sgn at this
            split at this <;> omega
      rw [hmin]
      exact ⟨fun h => (by cases h), fun _ => by simp⟩
    · rw [hG, if_neg he]
      cases r with
      | nil =>
        have hq' : sgn b = q := hq
        have h1 := hI.1 rfl
        rw [h1]
        have hm : minB b [c] = true := by
          simp only [minB, Bool.not_eq_true', Bool.or_eq_false_iff, Bool.and_eq_false_iff, decide_eq_false_iff_not]
          unfold sgn at he hq'
          split at he <;> split at hq' <;> omega
        exact ⟨fun _ => rfl, fun h => by rw [List.nil_append, hm] at h; cases h⟩
      | cons d t =>
        have e : minB b (d :: t ++ [c]) = minB b (d :: t) := rfl
        rw [e]
        refine ⟨fun h => by rw [hI.1 h]; rfl, fun h => ?_⟩
        have := hI.2 h
        rw [List.length_append, List.length_append]
        simp only [List.length_cons, List.length_nil] at this ⊢
        omega
theorem num_min (b : UInt8) (r : B) (h : r.length ≤ 3) : numS (b :: r) = if minB b r = true then (joinI (sgn b) r, true) else (0, false) := by
  have hj := int_join b r 7 (by omega)
  unfold numS
  simp only
  rw [if_neg (by simp; omega)]
  by_cases hm : minB b r = true
  · rw [if_pos hm, if_pos (show intS _ = _ from hj.1 hm)]
  · rw [if_neg hm, if_neg]
    intro e
    have := hj.2 (by simpa using hm)
    unfold intS at e
    rw [e] at this
    simp only [List.length_cons] at this
    omega
/-- The bytes of a number are read as it. -/
theorem join_int : ∀ (f : Nat) (n : Int), -(128 * 256 ^ f) ≤ n → n < 128 * 256 ^ f → ∃ b r, intG f n = b :: r ∧ joinI (sgn b) r = n
  | 0, n, h1, h2 => ⟨byt n, [], rfl, by
      show sgn (byt n) = n
      rw [sgn_byt]
      split <;> omega⟩
  | f + 1, n, h1, h2 => by
    by_cases he : n = sgn (byt n)
    · exact ⟨byt n, [], by unfold intG; rw [if_pos he], he.symm⟩
    · rw [Int.pow_succ] at h1 h2
      obtain ⟨b, r, e1, e2⟩ := join_int f (n / 256) (by omega) (by omega)
      refine ⟨b, r ++ [byt n], by unfold intG; rw [if_neg he, e1]; rfl, ?_⟩
      rw [joinI_snoc, e2, byt_nat]
      omega
theorem int_short : ∀ (j f : Nat) (n : Int), -(128 * 256 ^ j) ≤ n → n < 128 * 256 ^ j → (intG f n).length ≤ j + 1
  | 0, f, n, h1, h2 => by
    have he : n = sgn (byt n) := by rw [sgn_byt]; split <;> omega
    cases f with
    | zero => simp [intG]
    | succ f => unfold intG; rw [if_pos he]; simp
  | j + 1, f, n, h1, h2 => by
    cases f with
    | zero => simp [intG]
    | succ f =>
      unfold intG
      split
      · simp
      · rw [Int.pow_succ] at h1 h2
        have := int_short j f (n / 256) (by omega) (by omega)
        simp; omega
theorem join_lim : ∀ (l : B) (h : Int) (k : Nat), -(k : Int) ≤ h → h < k → -((k : Int) * 256 ^ l.length) ≤ joinI h l ∧ joinI h l < (k : Int) * 256 ^ l.length
  | [], h, k, h1, h2 => by simp [joinI]; omega
  | b :: r, h, k, h1, h2 => by
    have hb := lt256 b
    have := join_lim r (h * 256 + b.toNat) (k * 256) (by push_cast; omega) (by push_cast; omega)
    rw [List.length_cons, Int.pow_succ]
    have e : (k : Int) * (256 ^ r.length * 256) = ((k * 256 : Nat) : Int) * 256 ^ r.length := by
      rw [Int.natCast_mul, Int.mul_assoc, Int.mul_comm (256 ^ r.length) 256]; rfl
    rw [e]
    exact this
theorem num_int {n : Int} (h : -9223372036854775808 ≤ n ∧ n ≤ 9223372036854775807) : numS (intS n) = if -2147483648 ≤ n ∧ n < 2147483648 then (n, true) else (0, false) := by
  obtain ⟨b, r, e1, e2⟩ := join_int 7 n (by have : (128 : Int) * 256 ^ 7 = 9223372036854775808 := by decide
                                            omega) (by have : (128 : Int) * 256 ^ 7 = 9223372036854775808 := by decide
                                                       omega)
  have e1' : intS n = b :: r := e1
  by_cases hs : -2147483648 ≤ n ∧ n < 2147483648
  · have hl := int_short 3 7 n (by have : (128 : Int) * 256 ^ 3 = 2147483648 := by decide
                                   omega) (by have : (128 : Int) * 256 ^ 3 = 2147483648 := by decide
                                              omega)
    rw [if_pos hs]
    rw [e1'] 
    unfold numS
    simp only
    rw [e1] at hl
    rw [if_neg (by omega), e2, if_pos e1']
  · rw [if_neg hs, e1']
    unfold numS
    simp only
    by_cases h4 : 4 < (b :: r).length
    · rw [if_pos h4]
    · exfalso
      have hb := sgn_lim b
      have hl := join_lim r (sgn b) 128 (by omega) (by omega)
      rw [e2] at hl
      simp only [List.length_cons] at h4
      match r, h4 with
      | [], _ => simp at hl; omega
      | [_], _ => simp at hl; omega
      | [_, _], _ => simp at hl; omega
      | [_, _, _], _ => simp at hl; omega
      | _ :: _ :: _ :: _ :: _, h4 => simp only [List.length_cons] at h4; omega
end Go.Proofs.Ythnahoodgkeaiaa.BE
