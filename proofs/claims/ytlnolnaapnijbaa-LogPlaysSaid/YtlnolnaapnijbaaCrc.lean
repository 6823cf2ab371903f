/-
  CRC-32, as mathematics: the register is a natural number below 2^32; over any program.
-/
import Derived.Laws.BitsAllLaws
namespace Go.Proofs.Ytlnolnaapnijbaa.S
set_option maxRecDepth 100000

def P : Nat := 3988292384
/-- One bit through the register. -/
def step (x : Nat) : Nat := x / 2 ^^^ (if x % 2 = 1 then P else 0)
def steps : Nat → Nat → Nat
  | 0, x => x
  | n + 1, x => step (steps n x)
/-- One byte through the register. -/
def addB (r : Nat) (c : UInt8) : Nat := steps 8 (r ^^^ c.toNat)
def through (r : Nat) (l : List UInt8) : Nat := l.foldl addB r
def inv (x : Nat) : Nat := 4294967295 ^^^ x
/-- S1. -/
def add (s : Nat) (l : List UInt8) : Nat := inv (through (inv s) l)
/-- The bytes as one number, the first one lowest. -/
def num : List UInt8 → Nat
  | [] => 0
  | c :: r => c.toNat ^^^ (num r <<< 8)

theorem xor_lt {a b : Nat} (ha : a < 4294967296) (hb : b < 4294967296) : a ^^^ b < 4294967296 := Nat.xor_lt_two_pow (n := 32) ha hb
theorem step_lt {x : Nat} (h : x < 4294967296) : step x < 4294967296 := by
  unfold step
  refine xor_lt (by omega) ?_
  split <;> decide
theorem steps_lt {x : Nat} (h : x < 4294967296) : ∀ n, steps n x < 4294967296
  | 0 => h
  | n + 1 => step_lt (steps_lt h n)
theorem u8_lt (c : UInt8) : c.toNat < 4294967296 := by have := c.toNat_lt; omega
theorem addB_lt {r : Nat} (h : r < 4294967296) (c : UInt8) : addB r c < 4294967296 := steps_lt (xor_lt h (u8_lt c)) 8
theorem through_lt {r : Nat} (h : r < 4294967296) : ∀ l : List UInt8, through r l < 4294967296
  | [] => h
  | c :: l => by
    show through (addB r c) l < _
    exact through_lt (addB_lt h c) l
theorem inv_lt {x : Nat} (h : x < 4294967296) : inv x < 4294967296 := xor_lt (by decide) h
theorem add_lt {s : Nat} (h : s < 4294967296) (l : List UInt8) : add s l < 4294967296 := inv_lt (through_lt (inv_lt h) l)
theorem xor_back (a x : Nat) : a ^^^ (a ^^^ x) = x := by rw [← Nat.xor_assoc, Nat.xor_self, Nat.zero_xor]
theorem inv_eq (x : Nat) : inv x = 4294967295 ^^^ x := rfl
theorem inv_inv (x : Nat) : inv (inv x) = x := by
  have h := xor_back 4294967295 x
  rw [← inv_eq] at h
  rw [← inv_eq] at h
  exact h
theorem inv_sub {x : Nat} (h : x < 4294967296) : inv x = 4294967295 - x := by
  have e := BitVec.toNat_not (x := BitVec.ofNat 32 x)
  have e2 : (BitVec.ofNat 32 x).toNat = x := by rw [BitVec.toNat_ofNat]; exact Nat.mod_eq_of_lt h
  have e3 : (~~~ BitVec.ofNat 32 x).toNat = inv x := by
    rw [← BitVec.allOnes_xor, BitVec.toNat_xor, e2, BitVec.toNat_allOnes, show 2 ^ 32 - 1 = 4294967295 by decide]
    simp only [inv]
  rw [← e3, e, e2]
theorem inv_inj {x y : Nat} : inv x = inv y ↔ x = y := ⟨fun h => by rw [← inv_inv x, h, inv_inv], fun h => by rw [h]⟩

/-! ### Going on -/
theorem through_append (r : Nat) (a b : List UInt8) : through r (a ++ b) = through (through r a) b := List.foldl_append
theorem add_append (s : Nat) (a b : List UInt8) : add s (a ++ b) = add (add s a) b := by
  unfold add
  rw [inv_inv, through_append]
theorem add_nil (s : Nat) : add s [] = s := by unfold add through; exact inv_inv s

/-! ### Sums go together -/
theorem xor_mod2 (a b : Nat) : (a ^^^ b) % 2 = (a % 2 + b % 2) % 2 := by
  have h := Nat.xor_mod_two_pow (a := a) (b := b) (n := 1)
  simp only [Nat.pow_one] at h
  rw [h]
  rcases Nat.mod_two_eq_zero_or_one a with ha | ha <;> rcases Nat.mod_two_eq_zero_or_one b with hb | hb <;> rw [ha, hb] <;> decide
theorem step_xor (a b : Nat) : step (a ^^^ b) = step a ^^^ step b := by
  unfold step
  have e : (a ^^^ b) / 2 = a / 2 ^^^ b / 2 := by
    have := Nat.xor_div_two_pow (a := a) (b := b) (n := 1)
    simpa using this
  have c : (if (a ^^^ b) % 2 = 1 then P else 0) = (if a % 2 = 1 then P else 0) ^^^ (if b % 2 = 1 then P else 0) := by
    rw [xor_mod2]
    rcases Nat.mod_two_eq_zero_or_one a with ha | ha <;> rcases Nat.mod_two_eq_zero_or_one b with hb | hb <;> simp [ha, hb]
  rw [e, c]
  ac_rfl
theorem steps_xor (a b : Nat) : ∀ n, steps n (a ^^^ b) = steps n a ^^^ steps n b
  | 0 => rfl
  | n + 1 => by simp only [steps]; rw [steps_xor a b n, step_xor]
theorem step_double (x : Nat) : step (2 * x) = x := by
  unfold step
  rw [if_neg (by omega), Nat.xor_zero]
  omega
theorem steps_step (n x : Nat) : steps n (step x) = step (steps n x) := by
  induction n with
  | zero => rfl
  | succ n ih => simp only [steps]; rw [ih]
theorem steps_add (n m x : Nat) : steps (n + m) x = steps n (steps m x) := by
  induction n with
  | zero => simp [steps]
  | succ n ih => rw [Nat.succ_add]; simp only [steps]; rw [ih]
theorem steps_shift (x : Nat) : ∀ n, steps n (x <<< n) = x
  | 0 => by simp [steps]
  | n + 1 => by
    have e : x <<< (n + 1) = 2 * (x <<< n) := by rw [Nat.shiftLeft_succ]
    simp only [steps]
    rw [← steps_step, e, step_double, steps_shift x n]
/-- All bits at once: those that come later lie higher. -/
theorem through_num : ∀ (l : List UInt8) (r : Nat), through r l = steps (8 * l.length) (r ^^^ num l)
  | [], r => by simp [through, num, steps]
  | c :: l, r => by
    show through (addB r c) l = _
    rw [through_num l (addB r c), List.length_cons, show 8 * (l.length + 1) = 8 * l.length + 8 by omega, steps_add]
    congr 1
    rw [num, ← Nat.xor_assoc, steps_xor, steps_shift]
    rfl
theorem steps_zero : ∀ n, steps n 0 = 0
  | 0 => rfl
  | n + 1 => by simp only [steps]; rw [steps_zero n]; rfl
theorem step_inj {x : Nat} (h : x < 4294967296) (h0 : step x = 0) : x = 0 := by
  unfold step at h0
  rcases Nat.mod_two_eq_zero_or_one x with hx | hx
  · rw [if_neg (by omega), Nat.xor_zero] at h0
    omega
  · rw [if_pos hx] at h0
    have : x / 2 = P := by
      have h1 := congrArg (· ^^^ P) h0
      simpa [Nat.xor_assoc] using h1
    unfold P at this
    omega
theorem steps_inj {x : Nat} (h : x < 4294967296) : ∀ n, steps n x = 0 → x = 0
  | 0, h0 => h0
  | n + 1, h0 => steps_inj h n (step_inj (steps_lt h n) h0)

theorem xor3 (x y z : List UInt8) : x.length = y.length → y.length = z.length → num (List.zipWith (· ^^^ ·) (List.zipWith (· ^^^ ·) x y) z) = num x ^^^ num y ^^^ num z := by
  induction x generalizing y z with
  | nil => intro h1 h2; cases y <;> cases z <;> simp_all [num]
  | cons a x ih =>
    intro h1 h2
    cases y with
    | nil => simp at h1
    | cons b y =>
      cases z with
      | nil => simp at h2
      | cons c z =>
        simp only [List.zipWith_cons_cons, num]
        rw [ih y z (by simpa using h1) (by simpa using h2), UInt8.toNat_xor, UInt8.toNat_xor, Nat.shiftLeft_xor_distrib, Nat.shiftLeft_xor_distrib]
        ac_rfl
/-- SumLinear. -/
theorem linear (s : Nat) (x y z : List UInt8) (h1 : x.length = y.length) (h2 : y.length = z.length) : add s (List.zipWith (· ^^^ ·) (List.zipWith (· ^^^ ·) x y) z) = add s x ^^^ add s y ^^^ add s z := by
  unfold add
  rw [through_num, through_num x, through_num y, through_num z, xor3 x y z h1 h2]
  have hl : (List.zipWith (· ^^^ ·) (List.zipWith (· ^^^ ·) x y) z).length = z.length := by simp [h1, h2]
  rw [hl, h1, h2]
  generalize inv s = r
  have e : r ^^^ (num x ^^^ num y ^^^ num z) = (r ^^^ num x) ^^^ (r ^^^ num y) ^^^ (r ^^^ num z) := by
    have : r ^^^ num x ^^^ (r ^^^ num y) = num x ^^^ num y := by
      rw [show r ^^^ num x ^^^ (r ^^^ num y) = (r ^^^ r) ^^^ (num x ^^^ num y) by ac_rfl, Nat.xor_self, Nat.zero_xor]
    rw [this]
    ac_rfl
  rw [e, steps_xor, steps_xor]
  generalize steps _ _ = p
  generalize steps _ _ = q
  generalize steps _ _ = t
  unfold inv
  rw [show 4294967295 ^^^ p ^^^ (4294967295 ^^^ q) ^^^ (4294967295 ^^^ t) = (4294967295 ^^^ 4294967295) ^^^ (4294967295 ^^^ (p ^^^ q ^^^ t)) by ac_rfl, Nat.xor_self, Nat.zero_xor]

/-! ### One byte turned -/
theorem num_set : ∀ (l : List UInt8) (j : Nat) (h : j < l.length) (v : UInt8), num (l.set j (l[j] ^^^ v)) = num l ^^^ (v.toNat <<< (8 * j))
  | c :: l, 0, _, v => by
    simp only [List.set_cons_zero, List.getElem_cons_zero, num, UInt8.toNat_xor, Nat.mul_zero, Nat.shiftLeft_zero]
    ac_rfl
  | c :: l, j + 1, h, v => by
    simp only [List.set_cons_succ, List.getElem_cons_succ, num]
    rw [num_set l j (by simpa using h) v, Nat.shiftLeft_xor_distrib, ← Nat.shiftLeft_add, show 8 * j + 8 = 8 * (j + 1) by omega]
    ac_rfl
/-- SumTells: what is turned is the pattern's w, from bit 'k' on. -/
theorem tells (s : Nat) (x y : List UInt8) (k w : Nat) (hl : y.length = x.length) (hk : k ≤ 8 * x.length) (hw : w < 4294967296) (h : num y = num x ^^^ (w <<< k)) : add s x = add s y ↔ w = 0 := by
  unfold add
  rw [inv_inj, through_num, through_num y, hl, h, ← Nat.xor_assoc, steps_xor _ (w <<< k)]
  have e : steps (8 * x.length) (w <<< k) = steps (8 * x.length - k) w := by
    conv => lhs; rw [show 8 * x.length = (8 * x.length - k) + k by omega]
    rw [steps_add, steps_shift]
  rw [e]
  generalize steps (8 * x.length) _ = q
  constructor
  · intro h1
    refine steps_inj hw (8 * x.length - k) ?_
    have h2 := congrArg (q ^^^ ·) h1
    simp only [Nat.xor_self, ← Nat.xor_assoc, Nat.zero_xor] at h2
    exact h2.symm
  · rintro rfl
    rw [steps_zero, Nat.xor_zero]
end Go.Proofs.Ytlnolnaapnijbaa.S
