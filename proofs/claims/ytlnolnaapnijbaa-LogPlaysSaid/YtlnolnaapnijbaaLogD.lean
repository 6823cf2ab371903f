/-
  The log as data: what a sector says, and how records are told.
-/
import Derived.Test.YtlnolnaapnijbaaLogU
namespace Go.Proofs.Ytlnolnaapnijbaa.L
set_option maxRecDepth 100000
open Go.RowKit K

/-- A number of some bytes, the low one first. -/
def nm : List UInt8 → Nat
  | [] => 0
  | c :: r => c.toNat + 256 * nm r
/-- k bytes of a number. -/
def le : Nat → Nat → List UInt8
  | 0, _ => []
  | k + 1, n => UInt8.ofNat n :: le k (n / 256)
@[simp] theorem le_length : ∀ k n, (le k n).length = k
  | 0, _ => rfl
  | k + 1, n => by simp [le, le_length k]
theorem ofNat_toNat (n : Nat) : (UInt8.ofNat n).toNat = n % 256 := by simp
theorem nm_le : ∀ k n, nm (le k n) = n % 256 ^ k
  | 0, n => by simp [nm, le, Nat.mod_one]
  | k + 1, n => by
    rw [le, nm, nm_le k, ofNat_toNat, Nat.pow_succ, Nat.mul_comm (256 ^ k) 256, Nat.mod_mul]
theorem nm_lt : ∀ l : List UInt8, nm l < 256 ^ l.length
  | [] => by simp [nm]
  | c :: r => by
    have := nm_lt r
    have hc := c.toNat_lt
    rw [nm, List.length_cons, Nat.pow_succ]
    omega
theorem le_snoc : ∀ k n, le (k + 1) n = le k n ++ [UInt8.ofNat (n / 256 ^ k)]
  | 0, n => by simp [le]
  | k + 1, n => by
    rw [le, le_snoc k, le, List.cons_append, Nat.div_div_eq_div_mul, Nat.pow_succ, Nat.mul_comm 256]
structure Sec where
  right : Bool
  epoch : Nat
  life : Nat
  place : Nat
  kind : Nat
  size : Nat
  bytes : List UInt8
def look (b : List UInt8) : Sec :=
  { right := decide (nm (b.take 4) = S.add 0 (b.drop 4)), epoch := nm ((b.drop 4).take 4), life := nm ((b.drop 8).take 4), place := nm ((b.drop 12).take 2),
    kind := nm ((b.drop 14).take 1), size := nm ((b.drop 15).take 1), bytes := b.drop 16 }
def rest (e l p f s : Nat) (b : List UInt8) : List UInt8 := le 4 e ++ (le 4 l ++ (le 2 p ++ (le 1 f ++ (le 1 s ++ b))))
def made (e l p f s : Nat) (b : List UInt8) : List UInt8 := le 4 (S.add 0 (rest e l p f s b)) ++ rest e l p f s b
theorem rest_length (e l p f s : Nat) (b : List UInt8) : (rest e l p f s b).length = 12 + b.length := by simp [rest]; omega
theorem made_length {e l p f s : Nat} {b : List UInt8} (h : b.length = 48) : (made e l p f s b).length = 64 := by simp [made, rest_length, h]
theorem look_made {e l p f s : Nat} {b : List UInt8} (he : e < 4294967296) (hl : l < 4294967296) (hp : p < 65536) (hf : f < 256) (hs : s < 256) :
    look (made e l p f s b) = ⟨true, e, l, p, f, s, b⟩ := by
  have h1 : (made e l p f s b).take 4 = le 4 (S.add 0 (rest e l p f s b)) := by simp [made]
  have h2 : (made e l p f s b).drop 4 = rest e l p f s b := by simp [made]
  have h3 : ((made e l p f s b).drop 4).take 4 = le 4 e := by rw [h2]; simp [rest]
  have h4 : ((made e l p f s b).drop 8).take 4 = le 4 l := by rw [show 8 = 4 + 4 from rfl, ← List.drop_drop, h2]; simp [rest]
  have d12 : (made e l p f s b).drop 12 = le 2 p ++ (le 1 f ++ (le 1 s ++ b)) := by
    rw [show 12 = 4 + (4 + 4) from rfl, ← List.drop_drop, ← List.drop_drop, h2]; simp [rest]
  have h5 : ((made e l p f s b).drop 12).take 2 = le 2 p := by rw [d12]; simp
  have d14 : (made e l p f s b).drop 14 = le 1 f ++ (le 1 s ++ b) := by rw [show 14 = 12 + 2 from rfl, ← List.drop_drop, d12]; simp
  have h6 : ((made e l p f s b).drop 14).take 1 = le 1 f := by rw [d14]; simp
  have d15 : (made e l p f s b).drop 15 = le 1 s ++ b := by rw [show 15 = 14 + 1 from rfl, ← List.drop_drop, d14]; simp
  have h7 : ((made e l p f s b).drop 15).take 1 = le 1 s := by rw [d15]; simp
  have h8 : (made e l p f s b).drop 16 = b := by rw [show 16 = 15 + 1 from rfl, ← List.drop_drop, d15]; simp
  unfold look
  rw [h1, h2, h4, h5, h6, h7, h8]
  have h3' : (rest e l p f s b).take 4 = le 4 e := by rw [← h2]; exact h3
  rw [h3']
  simp only [nm_le]
  have ha : S.add 0 (rest e l p f s b) < 4294967296 := S.add_lt (by decide) _
  rw [Nat.mod_eq_of_lt (b := 256 ^ 4) (by omega), Nat.mod_eq_of_lt (a := e) (by omega), Nat.mod_eq_of_lt (a := l) (by omega), Nat.mod_eq_of_lt (a := p) (by omega), Nat.mod_eq_of_lt (a := f) (by omega), Nat.mod_eq_of_lt (a := s) (by omega)]
  simp
def zeros64 : List UInt8 := List.replicate 64 0
theorem look_zeros : (look zeros64).right = false := by decide +kernel

/-- What a sector has to say at its place: a piece of a record, if it is one of the log's epoch. -/
structure Pc where
  life : Nat
  fst : Bool
  lst : Bool
  bytes : List UInt8
def piece (e p : Nat) (s : Sec) : Option Pc :=
  if s.right = true ∧ s.epoch = e ∧ s.place = p ∧ s.size ≤ 48 ∧ s.kind ≤ 3 ∧ (s.kind / 2 = 1 ∨ s.size = 48) then some ⟨s.life, decide (s.kind % 2 = 1), decide (s.kind / 2 = 1), s.bytes.take s.size⟩ else none
/-- How far the reading has come. -/
structure Sc where
  recs : List (List UInt8)
  part : List UInt8
  last : Nat
  ins : Bool
  next : Nat
def Sc.fits (h : Nat) (c : Sc) (x : Pc) : Bool := decide (x.life ≤ h) && (x.fst == !c.ins) && (if c.ins then x.life == c.last else decide (c.last ≤ x.life))
def Sc.step (c : Sc) (p : Nat) (x : Pc) : Sc :=
  if x.lst then ⟨c.recs ++ [c.part ++ x.bytes], [], x.life, false, p + 1⟩ else { c with part := c.part ++ x.bytes, last := x.life, ins := true }
/-- n sectors from place p on. -/
def scan (h : Nat) (V : Nat → Option Pc) : Nat → Nat → Sc → List (List UInt8) × Nat
  | 0, _, c => (c.recs, c.next)
  | n + 1, p, c => match V p with
    | some x => if c.fits h x then scan h V n (p + 1) (c.step p x) else (c.recs, c.next)
    | none => (c.recs, c.next)
def sc0 : Sc := ⟨[], [], 0, false, 1⟩
/-- The log in one life of its region. -/
structure Lg where
  first : Nat
  count : Nat
  epoch : Nat
  life : Nat
  next : Nat
def U.view (u : U) (first e : Nat) (p : Nat) : Option Pc := piece e p (look (u.sec (first + p)))
def headLife (s : Sec) : Nat := if s.right = true ∧ s.kind = 4 ∧ s.place = 0 then s.life else 0
def pad48 (b : List UInt8) : List UInt8 := b ++ List.replicate (48 - b.length) 0
theorem pad48_length {b : List UInt8} (h : b.length ≤ 48) : (pad48 b).length = 48 := by simp [pad48]; omega
def zeros48 : List UInt8 := List.replicate 48 0
/-- The first steps of Open: the error, the disk behind them, the life of the head that was read. -/
def U.begin (u : U) (first : Nat) : Int × U × Nat :=
  if u.up = false then (10, u, 0) else
  let h := headLife (look (u.sec first))
  if h = 4294967295 then (3, u, h) else
  let a := u.write first (made 0 (h + 1) 0 4 0 zeros48)
  if a.1 ≠ 0 then (a.1, a.2, h) else
  let f := a.2.flush
  (f.1, f.2, h)
def U.load (u : U) (first count e h : Nat) : List (List UInt8) × Nat := scan h (u.view first e) (count - 1) 1 sc0
/-- One sector of a record of n sectors. -/
def recSec (g : Lg) (r : List UInt8) (n i : Nat) : List UInt8 :=
  let b := (r.drop (48 * i)).take 48
  made g.epoch g.life (g.next + i) ((if i = 0 then 1 else 0) + (if i + 1 = n then 2 else 0)) b.length (pad48 b)
/-- The sectors of a record from the i-th on, m of them. -/
def U.puts (u : U) (g : Lg) (r : List UInt8) (n : Nat) : Nat → Nat → Int × U
  | 0, _ => (0, u)
  | m + 1, i =>
    let a := u.write (g.first + (g.next + i) : Nat) (recSec g r n i)
    if a.1 ≠ 0 then a else a.2.puts g r n m (i + 1)
def secsN (r : List UInt8) : Nat := if r.length ≤ 48 then 1 else (r.length - 1) / 48 + 1
def U.append (u : U) (g : Lg) (r : List UInt8) : Int × U × Lg :=
  if 2000 < r.length then (2, u, g) else
  let n := secsN r
  if g.count < g.next + n then (3, u, g) else
  let a := u.puts g r n n 0
  if a.1 ≠ 0 then (a.1, a.2, g) else (0, a.2, { g with next := g.next + n })
/-- Open, of a region that lies on the disk. -/
def U.opens (u : U) (first count e : Nat) : Int × U × Option (Lg × List (List UInt8)) :=
  let b := u.begin first
  if b.1 ≠ 0 then (b.1, b.2.1, none) else
  let r := b.2.1.load first count e b.2.2
  (0, b.2.1, some (⟨first, count, e, b.2.2 + 1, r.2⟩, r.1))
end Go.Proofs.Ytlnolnaapnijbaa.L
