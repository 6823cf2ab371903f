/-
  Names as data: types, texts, what is read out of a text, folded names and their keys. No program.
-/
import Derived.Test.YthjmkfpdbbfcpaaGreatDoorBeD
set_option linter.unusedVariables false
set_option linter.unusedSimpArgs false
namespace Go.Proofs.YthjmkfpdbbfcpaaGreatDoor.DN
set_option maxRecDepth 100000
open Go.Proofs.YthjmkfpdbbfcpaaGreatDoor.BE

abbrev Av := B × B
abbrev Rd := List Av
abbrev Nm := List Rd

/-! ### Types -/
def isLet (c : UInt8) : Bool := (97 ≤ c && c ≤ 122) || (65 ≤ c && c ≤ 90)
def isDig (c : UInt8) : Bool := 48 ≤ c && c ≤ 57
def okAt (first : Bool) (c : UInt8) : Bool := isLet c || (!first && (isDig c || c == 45))
def typ (s : B) : Bool := decide (1 ≤ s.length) && decide (s.length ≤ 20) && (match s with | [] => true | c :: r => okAt true c && r.all (okAt false))
/-- A letter made small. -/
def lo (c : UInt8) : UInt8 := if 65 ≤ c ∧ c ≤ 90 then c + 32 else c
def low (s : B) : B := s.map lo
/-! ### Texts -/
def sign (c : UInt8) : Bool := c == 34 || c == 43 || c == 44 || c == 59 || c == 60 || c == 62 || c == 92
def dgt (n : UInt8) : UInt8 := if n < 10 then 48 + n else 87 + n
/-- A byte's text: is it the first one, the last one? -/
def byT (first last : Bool) (c : UInt8) : B :=
  if c < 32 ∨ c = 127 then [92, dgt (c / 16), dgt (c % 16)]
  else if sign c || (c == 35 && first) || (c == 32 && (first || last)) then [92, c] else [c]
def valFrom : Bool → B → B
  | _, [] => []
  | first, c :: r => byT first r.isEmpty c ++ valFrom false r
def valT (v : B) : B := valFrom true v
def joinB (sep : B) : List B → B
  | [] => []
  | [a] => a
  | a :: b :: r => a ++ sep ++ joinB sep (b :: r)
def avaT (a : Av) : B := a.1 ++ [61] ++ valT a.2
def stepT (r : Rd) : B := joinB [43] (r.map avaT)
def printT (n : Nm) : B := joinB [44] (n.map stepT)
/-! ### Names that may be -/
def dup (r : Rd) (t : B) : Bool := r.any fun a => low a.1 == low t
/-- The types of a step are types, and differ from those ahead. -/
def typs : Rd → Rd → Bool
  | _, [] => true
  | seen, a :: r => typ a.1 && !dup seen a.1 && typs (seen ++ [a]) r
def okStep (r : Rd) : Bool := decide (1 ≤ r.length) && decide (r.length ≤ 4) && typs [] r
def built (n : Nm) : Bool := decide (n.length ≤ 16) && n.all okStep
def right (n : Nm) : Bool := built n && decide ((printT n).length ≤ 400)
/-! ### Reading -/
def hexv (c : UInt8) : Option UInt8 := if 48 ≤ c ∧ c ≤ 57 then some (c - 48) else if 97 ≤ c ∧ c ≤ 102 then some (c - 87) else if 65 ≤ c ∧ c ≤ 70 then some (c - 55) else none
/-- Behind a sign of escape: the byte, and the rest. -/
def esc : B → Option (UInt8 × B)
  | [] => none
  | c :: r => if sign c || c == 35 || c == 61 || c == 32 then some (c, r) else
    match r with
    | [] => none
    | d :: r' => match hexv c, hexv d with
      | some x, some y => some (16 * x + y, r')
      | _, _ => none
/-- One more byte of a value: none: it may not be; the byte, whether it is a bare blank, the rest. -/
def one (den : B) (c : UInt8) (r : B) : Option (UInt8 × Bool × B) :=
  if c = 92 then (esc r).map fun x => (x.1, false, x.2)
  else if c == 34 || c == 59 || c == 60 || c == 62 || c == 0 then none
  else if (c == 35 || c == 32) && den.isEmpty then none
  else some (c, c == 32, r)
def rvF : Nat → B → Bool → B → Option (B × B)
  | 0, _, _, _ => none
  | _ + 1, den, blank, [] => if blank then none else some (den, [])
  | f + 1, den, blank, c :: r => if c = 44 ∨ c = 43 then (if blank then none else some (den, c :: r)) else
    match one den c r with
    | none => none
    | some x => rvF f (den ++ [x.1]) x.2.1 x.2.2
/-- A value, and what is behind it. -/
def rv (s : B) : Option (B × B) := rvF (s.length + 1) [] false s
/-- What is ahead of the first =, and behind it. -/
def cutEq : B → Option (B × B)
  | [] => none
  | c :: r => if c = 61 then some ([], r) else (cutEq r).map fun x => (c :: x.1, x.2)
def readA (s : B) : Option (Av × B) := (cutEq s).bind fun x => (rv x.2).map fun y => ((x.1, y.1), y.2)
def readF : Nat → Nm → Rd → B → Option Nm
  | 0, _, _, _ => none
  | f + 1, n, step, s => (readA s).bind fun x => match x.2 with
    | [] => some (n ++ [step ++ [x.1]])
    | c :: r => if c = 44 then readF f (n ++ [step ++ [x.1]]) [] r else readF f n (step ++ [x.1]) r
def read (s : B) : Option Nm := if s = [] then some [] else readF (s.length + 1) [] [] s
/-- A text's name; the mistake's number. -/
def parse (s : B) : Nm × Int := if 400 < s.length then ([], 2) else
  match read s with
  | none => ([], 120)
  | some n => if built n then (n, 0) else ([], 120)

/-! ### Lemmas -/
theorem esc_len {r r' : B} {c : UInt8} (h : esc r = some (c, r')) : r'.length < r.length := by
  unfold esc at h
  split at h
  · cases h
  · split at h
    · cases h; simp
    · split at h
      · cases h
      · split at h
        · cases h; simp; omega
        · cases h
theorem one_len {den r r' : B} {c d : UInt8} {b : Bool} (h : one den c r = some (d, b, r')) : r'.length ≤ r.length := by
  unfold one at h
  split at h
  · cases he : esc r with
    | none => rw [he] at h; cases h
    | some x =>
      obtain ⟨x1, x2⟩ := x
      rw [he] at h
      have := esc_len he
      cases h
      exact Nat.le_of_lt this
  · split at h
    · cases h
    · split at h
      · cases h
      · cases h; exact Nat.le_refl _
/-- Enough fuel is enough. -/
theorem rvF_more : ∀ (f g : Nat) (den : B) (b : Bool) (s : B), s.length < f → s.length < g → rvF f den b s = rvF g den b s
  | 0, _, _, _, _, h, _ => by omega
  | _ + 1, 0, _, _, _, _, h => by omega
  | f + 1, g + 1, den, b, [], _, _ => rfl
  | f + 1, g + 1, den, b, c :: r, h1, h2 => by
    unfold rvF
    split
    · rfl
    · cases ho : one den c r with
      | none => rfl
      | some x =>
        obtain ⟨d, bb, r'⟩ := x
        have := one_len ho
        simp at h1 h2
        exact rvF_more f g _ _ r' (by omega) (by omega)
theorem rvF_len : ∀ (f : Nat) (den : B) (b : Bool) (s v r : B), rvF f den b s = some (v, r) → r.length ≤ s.length ∧ v.length ≤ den.length + s.length ∧ (r = [] ∨ ∃ c r', r = c :: r' ∧ (c = 44 ∨ c = 43))
  | 0, _, _, _, _, _, h => by cases h
  | f + 1, den, b, [], v, r, h => by
    unfold rvF at h
    cases b
    · cases h; simp
    · cases h
  | f + 1, den, b, c :: s, v, r, h => by
    unfold rvF at h
    split at h
    · rename_i hc
      cases b
      · cases h
        exact ⟨Nat.le_refl _, by simp, .inr ⟨c, s, rfl, hc⟩⟩
      · cases h
    · cases ho : one den c s with
      | none => rw [ho] at h; cases h
      | some x =>
        obtain ⟨d, bb, r'⟩ := x
        rw [ho] at h
        have h1 := one_len ho
        obtain ⟨h2, h3, h4⟩ := rvF_len f _ _ _ _ _ h
        dsimp only at h2 h3
        simp only [List.length_append, List.length_cons, List.length_nil] at h3 ⊢
        exact ⟨by omega, by omega, h4⟩
theorem rv_len {s v r : B} (h : rv s = some (v, r)) : r.length ≤ s.length ∧ v.length ≤ s.length ∧ (r = [] ∨ ∃ c r', r = c :: r' ∧ (c = 44 ∨ c = 43)) := by
  obtain ⟨h1, h2, h3⟩ := rvF_len _ _ _ _ _ _ h
  exact ⟨h1, by simpa using h2, h3⟩
theorem cutEq_len : ∀ {s a b : B}, cutEq s = some (a, b) → a.length + b.length < s.length
  | [], _, _, h => by cases h
  | c :: r, a, b, h => by
    unfold cutEq at h
    split at h
    · cases h; simp
    · cases hc : cutEq r with
      | none => rw [hc] at h; cases h
      | some x =>
        obtain ⟨x1, x2⟩ := x
        rw [hc] at h
        have := cutEq_len hc
        cases h
        simp; omega
theorem readA_len {s : B} {a : Av} {r : B} (h : readA s = some (a, r)) : r.length < s.length ∧ a.1.length ≤ s.length ∧ a.2.length ≤ s.length ∧ (r = [] ∨ ∃ c r', r = c :: r' ∧ (c = 44 ∨ c = 43)) := by
  unfold readA at h
  cases hc : cutEq s with
  | none => rw [hc] at h; cases h
  | some x =>
    obtain ⟨x1, x2⟩ := x
    rw [hc] at h
    simp only [Option.bind_some] at h
    cases hv : rv x2 with
    | none => rw [hv] at h; cases h
    | some y =>
      obtain ⟨y1, y2⟩ := y
      rw [hv] at h
      have h1 := cutEq_len hc
      obtain ⟨h2, h3, h4⟩ := rv_len hv
      cases h
      exact ⟨by show y2.length < _; omega, by show x1.length ≤ _; omega, by show y1.length ≤ _; omega, h4⟩
theorem readF_more : ∀ (f g : Nat) (n : Nm) (st : Rd) (s : B), s.length ≤ f → s.length ≤ g → readF (f + 1) n st s = readF (g + 1) n st s
  | f, g, n, st, s, h1, h2 => by
    unfold readF
    cases hA : readA s with
    | none => rfl
    | some x =>
      obtain ⟨a, r⟩ := x
      obtain ⟨h3, -⟩ := readA_len hA
      simp only [Option.bind_some]
      cases r with
      | nil => rfl
      | cons c r =>
        simp only [List.length_cons] at h3
        obtain ⟨f', rfl⟩ : ∃ f', f = f' + 1 := ⟨f - 1, by omega⟩
        obtain ⟨g', rfl⟩ : ∃ g', g = g' + 1 := ⟨g - 1, by omega⟩
        simp only
        rw [readF_more f' g' _ _ r (by omega) (by omega), readF_more f' g' _ _ r (by omega) (by omega)]
end Go.Proofs.YthjmkfpdbbfcpaaGreatDoor.DN
