/-
  SHA-256 of bytes, as mathematics: padding, blocks, digest. No program.
-/
import Derived.Test.YtejbanlhgnlliaaDoorShaM
namespace Go.Proofs.YtejbanlhgnlliaaDoor.SH
set_option maxRecDepth 100000

/-- How many noughts are put behind. -/
def padz (n : Nat) : Nat := (119 - n % 64) % 64
def be8 (n : Nat) (i : Nat) : UInt8 := UInt8.ofNat (n / 2 ^ (8 * (7 - i)) % 256)
def pad (l : List UInt8) : List UInt8 := l ++ [128] ++ List.replicate (padz l.length) 0 ++ (List.range 8).map (be8 (l.length * 8))
theorem pad_length (l : List UInt8) : (pad l).length = l.length + 9 + padz l.length := by simp [pad]; omega
theorem pad_blocks (l : List UInt8) : (pad l).length % 64 = 0 := by rw [pad_length]; unfold padz; omega
theorem padz_lt (n : Nat) : padz n < 64 := Nat.mod_lt _ (by decide)
/-- Four bytes, the most significant one first. -/
def word (l : List UInt8) (p : Nat) : Nat := (l.getD p 0).toNat * 16777216 + (l.getD (p + 1) 0).toNat * 65536 + (l.getD (p + 2) 0).toNat * 256 + (l.getD (p + 3) 0).toNat
theorem word_lt (l : List UInt8) (p : Nat) : word l p < 4294967296 := by
  unfold word
  have := (l.getD p 0).toNat_lt; have := (l.getD (p + 1) 0).toNat_lt; have := (l.getD (p + 2) 0).toNat_lt; have := (l.getD (p + 3) 0).toNat_lt
  omega
/-- The state behind n blocks. -/
def hs (l : List UInt8) : Nat → Nat → Nat
  | 0 => h0
  | n + 1 => comp (hs l n) fun i => word l (64 * n + 4 * i)
def dig (l : List UInt8) : Nat → Nat := fun i => hs (pad l) ((pad l).length / 64) (i / 4) / 2 ^ (24 - i % 4 * 8) % 256
theorem dig_lt (l : List UInt8) (i : Nat) : dig l i < 256 := Nat.mod_lt _ (by decide)

/-! ### Words stay below 2^32 -/
def B32 (f : Nat → Nat) : Prop := ∀ i, f i < 4294967296
theorem xor_lt {a b : Nat} (ha : a < 4294967296) (hb : b < 4294967296) : a ^^^ b < 4294967296 := Nat.xor_lt_two_pow (n := 32) ha hb
theorem and_lt {a b : Nat} (hb : b < 4294967296) : a &&& b < 4294967296 := Nat.lt_of_le_of_lt Nat.and_le_right hb
theorem R_lt {n x : Nat} (hx : x < 4294967296) : R n x < 4294967296 := Nat.or_lt_two_pow (n := 32) (Nat.lt_of_le_of_lt (Nat.div_le_self _ _) hx) (Nat.mod_lt _ (by decide))
theorem getD_lt {l : List Nat} (h : l.all (· < 4294967296) = true) (i : Nat) : l.getD i 0 < 4294967296 := by
  rw [List.getD_eq_getElem?_getD]
  cases hq : l[i]? with
  | none => decide
  | some x =>
    have := List.all_eq_true.1 h x (List.mem_of_getElem? hq)
    simpa using this
theorem kc_lt : B32 kc := getD_lt (by decide +kernel)
theorem h0_lt : B32 h0 := getD_lt (by decide +kernel)
theorem wS_lt {m : Nat → Nat} (h : B32 m) : ∀ n, B32 (wS m n)
  | 0 => h
  | n + 1 => fun i => by
    show (if i = n + 16 then _ else wS m n i) < _
    split
    · exact Nat.mod_lt _ (by decide)
    · exact wS_lt h n i
theorem rx_lt (k w : Nat) (s : Nat → Nat) : rx k w s < 4294967296 := Nat.mod_lt _ (by decide)
theorem ry_lt (s : Nat → Nat) : ry s < 4294967296 := Nat.mod_lt _ (by decide)
theorem rd_lt {s : Nat → Nat} (k w : Nat) (h : B32 s) : B32 (rd k w s) := fun i => by
  unfold rd
  split <;> first | exact h _ | exact Nat.mod_lt _ (by decide) | decide
theorem rds_lt {h : Nat → Nat} (w : Nat → Nat) (hh : B32 h) : ∀ n, B32 (rds w h n)
  | 0 => hh
  | n + 1 => rd_lt _ _ (rds_lt w hh n)
theorem comp_lt (h m : Nat → Nat) : B32 (comp h m) := fun _ => Nat.mod_lt _ (by decide)
theorem hs_lt (l : List UInt8) : ∀ n, B32 (hs l n)
  | 0 => h0_lt
  | n + 1 => comp_lt _ _
/-! ### HMAC -/
def key64 (key : List UInt8) : List UInt8 := (if 64 < key.length then (List.range 32).map fun i => UInt8.ofNat (dig key i) else key) ++ List.replicate (64 - (if 64 < key.length then 32 else key.length)) 0
def with_ (c : UInt8) (k : List UInt8) : List UInt8 := k.map (· ^^^ c)
def digL (l : List UInt8) : List UInt8 := (List.range 32).map fun i => UInt8.ofNat (dig l i)
def mac (key b : List UInt8) : Nat → Nat := dig (with_ 92 (key64 key) ++ digL (with_ 54 (key64 key) ++ b))
end Go.Proofs.YtejbanlhgnlliaaDoor.SH
