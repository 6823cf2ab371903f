/-
  Frames as data: what bytes are cut into, and how chunks make no difference. No program.
-/
import Derived.Test.YtoikiokcpakokaaBeD
set_option linter.unusedVariables false
set_option linter.unusedSimpArgs false
namespace Go.Proofs.Ytoikiokcpakokaa.FR
set_option maxRecDepth 100000
open Go.Proofs.Ytoikiokcpakokaa.BE

/-- How many bytes the frame has that these bytes begin with, or what is wrong with them. -/
def szF (s : B) : Except Nat Nat := match s with
  | [] => .error 92
  | t :: r => if t.toNat = 48 then match hdS (t :: r) with
    | .error e => .error e
    | .ok (_, c, h) => if (t :: r).length < h + c then .error 92 else .ok (h + c)
    else .error 100
/-- The frames, and what is left of the bytes, if they may go on. -/
def cutF : Nat → B → List B × Option B
  | 0, s => ([], some s)
  | k + 1, s => match szF s with
    | .error e => if e = 92 then ([], some s) else ([], none)
    | .ok n => (s.take n :: (cutF k (s.drop n)).1, (cutF k (s.drop n)).2)
def cut (s : B) : List B × Option B := cutF s.length s

theorem sz_ok {s : B} {n : Nat} (h : szF s = .ok n) : 2 ≤ n ∧ n ≤ s.length ∧ ∃ r, s.take n = 48 :: r := by
  match s, h with
  | [], h => cases h
  | t :: r, h =>
    unfold szF at h
    simp only at h
    split at h
    · rename_i ht
      split at h
      · cases h
      · rename_i tt c hh hd
        obtain ⟨b, _, _, _, h5, r', h6⟩ := hd_inv hd
        split at h
        · cases h
        · rename_i hl
          cases h
          have := len_pos c
          refine ⟨by omega, by omega, ?_⟩
          obtain ⟨n, hn⟩ : ∃ n, hh + c = n + 1 := ⟨hh + c - 1, by omega⟩
          have e : t = 48 := UInt8.toNat_inj.1 ht
          rw [hn, List.take_succ_cons, e]
          exact ⟨_, rfl⟩
    · cases h
theorem hd_stable {s : B} {e : Nat} (h : hdS s = .error e) (he : e ≠ 92) (r : B) : hdS (s ++ r) = .error e := by
  match s, h with
  | [], h => cases h; exact absurd rfl he
  | [t], h =>
    simp only [hdS] at h
    split at h
    · rename_i ht
      cases h
      show hdS (t :: r) = _
      unfold hdS
      simp only
      rw [if_pos ht]
    · cases h; exact absurd rfl he
  | t :: l :: q, h =>
    show hdS (t :: l :: (q ++ r)) = _
    simp only [hdS] at h ⊢
    by_cases ht : tagB (t.toNat : Int) = false
    · rw [if_pos ht] at h ⊢; exact h
    · rw [if_neg ht] at h ⊢
      by_cases h1 : l.toNat < 128
      · rw [if_pos h1] at h; cases h
      · rw [if_neg h1] at h ⊢
        by_cases h2 : l.toNat = 129
        · rw [if_pos h2] at h ⊢
          cases q with
          | nil => simp only at h; cases h; exact absurd rfl he
          | cons a q' => exact h
        · rw [if_neg h2] at h ⊢
          by_cases h3 : l.toNat = 130
          · rw [if_pos h3] at h ⊢
            match q, h with
            | [], h => simp only at h; cases h; exact absurd rfl he
            | [a], h => simp only at h; cases h; exact absurd rfl he
            | a :: b :: q', h => exact h
          · rw [if_neg h3] at h ⊢
            exact h
theorem hd_more {s : B} {x : Nat × Nat × Nat} (h : hdS s = .ok x) (r : B) : hdS (s ++ r) = .ok x := by
  obtain ⟨t, c, hh⟩ := x
  obtain ⟨b, rfl, hb, hc, rfl, r', rfl⟩ := hd_inv h
  have := hd_enc hb hc (r' ++ r)
  rw [← List.append_assoc] at this
  exact this
theorem sz_more {s : B} {n : Nat} (h : szF s = .ok n) (r : B) : szF (s ++ r) = .ok n := by
  match s, h with
  | [], h => cases h
  | t :: q, h =>
    show szF (t :: (q ++ r)) = _
    unfold szF at h ⊢
    simp only at h ⊢
    split at h
    · rename_i ht
      rw [if_pos ht]
      split at h
      · cases h
      · rename_i tt c hh hd
        have hd2 : hdS (t :: (q ++ r)) = _ := hd_more hd r
        rw [hd2]
        simp only
        split at h
        · cases h
        · rename_i hl
          rw [if_neg (by simp at hl ⊢; omega)]
          exact h
    · cases h
theorem sz_bad {s : B} {e : Nat} (h : szF s = .error e) (he : e ≠ 92) (r : B) : szF (s ++ r) = .error e := by
  match s, h with
  | [], h => cases h; exact absurd rfl he
  | t :: q, h =>
    show szF (t :: (q ++ r)) = _
    unfold szF at h ⊢
    simp only at h ⊢
    split at h
    · rename_i ht
      rw [if_pos ht]
      split at h
      · rename_i e' hd
        cases h
        have hd2 : hdS (t :: (q ++ r)) = _ := hd_stable hd he r
        rw [hd2]
      · split at h
        · cases h; exact absurd rfl he
        · cases h
    · rename_i ht
      rw [if_neg ht]
      exact h
theorem cut_fuel : ∀ (k : Nat) (s : B), s.length ≤ k → cutF k s = cut s
  | 0, s, h => by
    obtain rfl : s = [] := List.eq_nil_of_length_eq_zero (by omega)
    rfl
  | k + 1, s, h => by
    unfold cut
    cases s with
    | nil => rfl
    | cons t q =>
      show cutF (k + 1) (t :: q) = cutF (q.length + 1) (t :: q)
      unfold cutF
      cases hz : szF (t :: q) with
      | error e => rfl
      | ok n =>
        obtain ⟨h1, h2, -⟩ := sz_ok hz
        simp only
        have hl : ((t :: q).drop n).length ≤ q.length := by rw [List.length_drop, List.length_cons]; omega
        rw [cut_fuel k _ (by simp at h; omega)]
        have e2 : cutF q.length ((t :: q).drop n) = cut ((t :: q).drop n) := by
          by_cases hq : q.length ≤ k
          · exact cut_fuelG q.length _ hl
          · exact cut_fuelG q.length _ hl
        rw [e2]
where
  cut_fuelG : ∀ (k : Nat) (s : B), s.length ≤ k → cutF k s = cut s := fun k s h => by
    exact cutG k s.length s h (Nat.le_refl _)
  cutG : ∀ (k j : Nat) (s : B), s.length ≤ k → s.length ≤ j → cutF k s = cutF j s
    | 0, 0, _, _, _ => rfl
    | 0, j + 1, s, h, _ => by
      obtain rfl : s = [] := List.eq_nil_of_length_eq_zero (by omega)
      rfl
    | k + 1, 0, s, _, h => by
      obtain rfl : s = [] := List.eq_nil_of_length_eq_zero (by omega)
      rfl
    | k + 1, j + 1, s, h, h' => by
      unfold cutF
      cases hz : szF s with
      | error e => rfl
      | ok n =>
        obtain ⟨h1, h2, -⟩ := sz_ok hz
        simp only
        rw [cutG k j _ (by rw [List.length_drop]; omega) (by rw [List.length_drop]; omega)]
/-- One step of the cutting. -/
theorem cut_ok {s : B} {n : Nat} (h : szF s = .ok n) : cut s = (s.take n :: (cut (s.drop n)).1, (cut (s.drop n)).2) := by
  obtain ⟨h1, h2, -⟩ := sz_ok h
  obtain ⟨k, hk⟩ : ∃ k, s.length = k + 1 := ⟨s.length - 1, by omega⟩
  have e : cut s = cutF (k + 1) s := by unfold cut; rw [hk]
  rw [e]
  unfold cutF
  rw [h]
  simp only
  rw [cut_fuel k _ (by rw [List.length_drop]; omega)]
theorem cut_wait {s : B} (h : szF s = .error 92) : cut s = ([], some s) := by
  unfold cut
  cases hl : s.length with
  | zero => rfl
  | succ k => unfold cutF; rw [h]; rfl
theorem cut_bad {s : B} {e : Nat} (h : szF s = .error e) (he : e ≠ 92) : cut s = ([], none) := by
  unfold cut
  cases hl : s.length with
  | zero =>
    obtain rfl : s = [] := List.eq_nil_of_length_eq_zero hl
    cases h; exact absurd rfl he
  | succ k => unfold cutF; rw [h]; simp only; rw [if_neg he]
theorem cut_nil : cut [] = ([], some []) := rfl
/-- What is cut off bytes is cut off them and more. -/
theorem cut_append : ∀ (k : Nat) (a b : B), a.length ≤ k → cut (a ++ b) = match cut a with
    | (fs, some r) => (fs ++ (cut (r ++ b)).1, (cut (r ++ b)).2)
    | (fs, none) => (fs, none)
  | 0, a, b, h => by
    obtain rfl : a = [] := List.eq_nil_of_length_eq_zero (by omega)
    rfl
  | k + 1, a, b, h => by
    cases hz : szF a with
    | error e =>
      by_cases he : e = 92
      · subst he
        rw [cut_wait hz]
        rfl
      · rw [cut_bad hz he, cut_bad (sz_bad hz he b) he]
    | ok n =>
      obtain ⟨h1, h2, -⟩ := sz_ok hz
      rw [cut_ok (sz_more hz b), cut_ok hz, List.take_append_of_le_length h2, List.drop_append_of_le_length h2, cut_append k (a.drop n) b (by rw [List.length_drop]; omega)]
      obtain ⟨fs, r⟩ := cut (a.drop n)
      cases r <;> rfl
/-- Nothing is lost, nothing is made up. -/
theorem cut_all : ∀ (k : Nat) (s : B), s.length ≤ k → (∃ r, s = (cut s).1.flatten ++ r ∧ ∀ q, (cut s).2 = some q → q = r) ∧ ∀ f ∈ (cut s).1, 2 ≤ f.length ∧ ∃ r, f = 48 :: r
  | 0, s, h => by
    obtain rfl : s = [] := List.eq_nil_of_length_eq_zero (by omega)
    exact ⟨⟨[], rfl, fun q hq => by cases hq; rfl⟩, fun f hf => by cases hf⟩
  | k + 1, s, h => by
    cases hz : szF s with
    | error e =>
      by_cases he : e = 92
      · subst he
        rw [cut_wait hz]
        exact ⟨⟨s, rfl, fun q hq => by cases hq; rfl⟩, fun f hf => by cases hf⟩
      · rw [cut_bad hz he]
        exact ⟨⟨s, rfl, fun q hq => by cases hq⟩, fun f hf => by cases hf⟩
    | ok n =>
      obtain ⟨h1, h2, r0, h3⟩ := sz_ok hz
      obtain ⟨⟨r, g1, g2⟩, g3⟩ := cut_all k (s.drop n) (by rw [List.length_drop]; omega)
      rw [cut_ok hz]
      refine ⟨⟨r, ?_, g2⟩, fun f hf => ?_⟩
      · show s = (s.take n :: (cut (s.drop n)).1).flatten ++ r
        rw [List.flatten_cons, List.append_assoc, ← g1, List.take_append_drop]
      · rcases List.mem_cons.1 hf with rfl | hf
        · exact ⟨by rw [List.length_take]; omega, r0, h3⟩
        · exact g3 f hf
theorem cut_count (s : B) : 2 * (cut s).1.length ≤ s.length ∧ (∀ f ∈ (cut s).1, f.length ≤ s.length) ∧ ∀ r, (cut s).2 = some r → r.length ≤ s.length := by
  obtain ⟨⟨r, h1, h2⟩, h3⟩ := cut_all s.length s (Nat.le_refl _)
  have hl := congrArg List.length h1
  rw [List.length_append] at hl
  have hc : ∀ (L : List B), (∀ f ∈ L, 2 ≤ f.length ∧ ∃ r, f = 48 :: r) → 2 * L.length ≤ L.flatten.length ∧ ∀ f ∈ L, f.length ≤ L.flatten.length := by
    intro L
    induction L with
    | nil => intro _; exact ⟨Nat.le_refl _, fun f hf => by cases hf⟩
    | cons a l ih =>
      intro hL
      obtain ⟨i1, i2⟩ := ih fun f hf => hL f (by simp [hf])
      have ha := (hL a (by simp)).1
      rw [List.flatten_cons, List.length_append, List.length_cons]
      refine ⟨by omega, fun f hf => ?_⟩
      rcases List.mem_cons.1 hf with rfl | hf
      · omega
      · have := i2 f hf; omega
  obtain ⟨c1, c2⟩ := hc _ h3
  refine ⟨by omega, fun f hf => by have := c2 f hf; omega, fun q hq => ?_⟩
  rw [h2 q hq]
  omega

/-! ### What Frames holds -/
structure Fs where
  wait : B
  dead : Bool
def Fs.new : Fs := ⟨[], false⟩
def fdF (f : Fs) (c : B) : List B := if f.dead then [] else (cut (f.wait ++ c)).1
def fdE (f : Fs) (c : B) : Nat := if f.dead then 100 else match (cut (f.wait ++ c)).2 with
  | none => 100
  | some _ => 0
def fdS (f : Fs) (c : B) : Fs := if f.dead then f else match (cut (f.wait ++ c)).2 with
  | none => ⟨[], true⟩
  | some r => ⟨r, false⟩
theorem fd_none {q c : B} {fs : List B} (h : cut (q ++ c) = (fs, none)) : fdE ⟨q, false⟩ c = 100 ∧ fdF ⟨q, false⟩ c = fs ∧ fdS ⟨q, false⟩ c = ⟨[], true⟩ := by
  refine ⟨?_, ?_, ?_⟩
  · unfold fdE; simp only [h]; rfl
  · unfold fdF; simp only [h]; rfl
  · unfold fdS; simp only [h]; rfl
theorem fd_some {q c r : B} {fs : List B} (h : cut (q ++ c) = (fs, some r)) : fdE ⟨q, false⟩ c = 0 ∧ fdF ⟨q, false⟩ c = fs ∧ fdS ⟨q, false⟩ c = ⟨r, false⟩ := by
  refine ⟨?_, ?_, ?_⟩
  · unfold fdE; simp only [h]; rfl
  · unfold fdF; simp only [h]; rfl
  · unfold fdS; simp only [h]; rfl
theorem fd_wait (f : Fs) (c : B) : (fdS f c).wait.length ≤ f.wait.length + c.length := by
  unfold fdS
  split
  · omega
  · split
    · simp
    · rename_i r hr
      have := (cut_count (f.wait ++ c)).2.2 r hr
      rw [List.length_append] at this
      exact this
end Go.Proofs.Ytoikiokcpakokaa.FR
