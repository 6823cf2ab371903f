/-
  The disk as data once more, of bytes (U), and that it is the disk of stage 1 (U.st).
-/
import Derived.Test.YtlnolnaapnijbaaDiskF
import Derived.Test.YtlnolnaapnijbaaBytes
import Derived.Test.YtlnolnaapnijbaaCrc
namespace Go.Proofs.Ytlnolnaapnijbaa.L
set_option maxRecDepth 100000
open Go.RowKit K

structure U where
  L : List (List UInt8)
  P : List (Nat × List UInt8)
  up : Bool
  left : Int
def ints (l : List UInt8) : List Int := l.map fun c => (c.toNat : Int)
@[simp] theorem ints_length (l : List UInt8) : (ints l).length = l.length := by simp [ints]
theorem u8s_ints (l : List UInt8) : D.u8s (ints l) = K.u8s l := by simp [D.u8s, ints, K.u8s]
def both8 (p : Nat × List UInt8) : Nat × List Int := (p.1, ints p.2)
def U.st (u : U) : D.St := ⟨u.L.map ints, u.P.map both8, u.up, u.left⟩
def U.new (n : Nat) : U := ⟨List.replicate n (List.replicate 64 0), [], true, -1⟩
theorem st_new (n : Nat) : (U.new n).st = D.St.new n := by
  simp [U.new, U.st, D.St.new, D.zeros, ints]
def U.spend (u : U) : Bool × U :=
  if u.left = 0 then (false, { u with up := false }) else if u.left = -1 then (true, u) else (true, { u with left := u.left - 1 })
theorem st_spend (u : U) : u.st.spend = (u.spend.1, u.spend.2.st) := by
  unfold D.St.spend U.spend
  show (if u.left = 0 then _ else _) = _
  split
  · rfl
  · show (if u.left = -1 then _ else _) = _
    split <;> rfl
@[simp] theorem spend_L (u : U) : u.spend.2.L = u.L := by unfold U.spend; (repeat' split) <;> rfl
@[simp] theorem spend_P (u : U) : u.spend.2.P = u.P := by unfold U.spend; (repeat' split) <;> rfl
def pad8 (b : List UInt8) : List UInt8 := b ++ List.replicate (64 - b.length) 0
theorem pad8_all {b : List UInt8} (h : b.length = 64) : pad8 b = b := by simp [pad8, h]
theorem ints_pad (b : List UInt8) : D.pad (ints b) = ints (pad8 b) := by simp [D.pad, pad8, ints]
def U.write (u : U) (n : Int) (b : List UInt8) : Int × U :=
  if u.up = false then (10, u) else if ¬ (0 ≤ n ∧ n < u.L.length) then (11, u) else if 64 < b.length then (2, u)
  else if u.spend.1 = false then (10, u.spend.2) else (0, { u.spend.2 with P := u.P ++ [(n.toNat, pad8 b)] })
theorem st_write (u : U) (n : Int) (b : List UInt8) : u.st.write n (ints b) = ((u.write n b).1, (u.write n b).2.st) := by
  unfold D.St.write U.write
  rw [st_spend]
  show (if u.up = false then _ else if ¬ (0 ≤ n ∧ n < ((u.L.map ints).length : Int)) then _ else if 64 < (ints b).length then _ else _) = _
  rw [List.length_map, ints_length]
  by_cases h1 : u.up = false
  · rw [if_pos h1, if_pos h1]
  rw [if_neg h1, if_neg h1]
  by_cases h2 : ¬ (0 ≤ n ∧ n < (u.L.length : Int))
  · rw [if_pos h2, if_pos h2]
  rw [if_neg h2, if_neg h2]
  by_cases h3 : 64 < b.length
  · rw [if_pos h3, if_pos h3]
  rw [if_neg h3, if_neg h3]
  by_cases h4 : u.spend.1 = false
  · rw [if_pos h4, if_pos h4]
  rw [if_neg h4, if_neg h4]
  simp [U.st, both8, ints_pad]
def over (P : List (Nat × List UInt8)) (n : Nat) (l : List UInt8) : List UInt8 := P.foldl (fun b p => if p.1 = n then p.2 else b) l
theorem now_ints (P : List (Nat × List UInt8)) (n : Nat) (l : List UInt8) : D.now (P.map both8) n (ints l) = ints (over P n l) := by
  induction P generalizing l with
  | nil => rfl
  | cons p r ih =>
    simp only [D.now, over, List.map_cons, List.foldl_cons, both8] at ih ⊢
    split <;> exact ih _
def U.sec (u : U) (n : Nat) : List UInt8 := over u.P n (u.L.getD n [])
def U.read (u : U) (n : Int) : List UInt8 × Int := if u.up = false then ([], 10) else if 0 ≤ n ∧ n < u.L.length then (u.sec n.toNat, 0) else ([], 11)
theorem st_read (u : U) (n : Int) : u.st.read n = (ints (u.read n).1, (u.read n).2) := by
  unfold D.St.read U.read
  rw [show u.st.up = u.up from rfl, show u.st.L = u.L.map ints from rfl, show u.st.P = u.P.map both8 from rfl]
  split
  · rfl
  · by_cases h0 : 0 ≤ n
    · rw [if_pos h0]
      by_cases h1 : n < u.L.length
      · have h2 : n.toNat < u.L.length := by omega
        rw [if_pos ⟨h0, h1⟩, List.getElem?_map, List.getElem?_eq_getElem h2]
        simp [U.sec, now_ints, List.getD_eq_getElem?_getD, List.getElem?_eq_getElem h2]
      · rw [if_neg (by omega), List.getElem?_eq_none (by simp; omega)]
        rfl
    · rw [if_neg h0, if_neg (by omega)]
      rfl
theorem read_in {u : U} {n : Nat} (h : n < u.L.length) : u.read n = if u.up = false then ([], 10) else (u.sec n, 0) := by
  unfold U.read
  rw [if_pos (c := 0 ≤ (n : Int) ∧ _) ⟨by omega, by omega⟩]
  rfl
def applied (L : List (List UInt8)) (P : List (Nat × List UInt8)) : List (List UInt8) := P.foldl (fun L p => L.set p.1 p.2) L
theorem applied_ints (L : List (List UInt8)) (P : List (Nat × List UInt8)) : D.applied (L.map ints) (P.map both8) = (applied L P).map ints := by
  induction P generalizing L with
  | nil => rfl
  | cons p r ih =>
    simp only [D.applied, applied, List.map_cons, List.foldl_cons, both8] at ih ⊢
    rw [← ih, List.map_set]
@[simp] theorem applied_length (L : List (List UInt8)) (P : List (Nat × List UInt8)) : (applied L P).length = L.length := by
  induction P generalizing L with
  | nil => rfl
  | cons p r ih => simp only [applied, List.foldl_cons] at ih ⊢; rw [ih]; simp
def U.flush (u : U) : Int × U := if u.up = false then (10, u) else if u.spend.1 = false then (10, u.spend.2) else (0, { u.spend.2 with L := applied u.L u.P, P := [] })
theorem st_flush (u : U) : u.st.flush = (u.flush.1, u.flush.2.st) := by
  unfold D.St.flush U.flush
  rw [st_spend]
  show (if u.up = false then _ else _) = _
  by_cases h1 : u.up = false
  · rw [if_pos h1, if_pos h1]
  rw [if_neg h1, if_neg h1]
  by_cases h4 : u.spend.1 = false
  · rw [if_pos h4, if_pos h4]
  rw [if_neg h4, if_neg h4]
  simp only [D.St.some, U.st, spend_L, applied_ints, List.map_nil]
def picked : List (Nat × List UInt8) → List Bool → List (Nat × List UInt8)
  | p :: r, b :: bs => if b then p :: picked r bs else picked r bs
  | _, _ => []
theorem picked_ints : ∀ (P : List (Nat × List UInt8)) (k : List Bool), D.picked (P.map both8) k = (picked P k).map both8
  | [], _ => by simp [picked, D.picked]
  | p :: r, [] => by simp [picked, D.picked]
  | p :: r, b :: bs => by
    simp only [List.map_cons, D.picked, picked, picked_ints r bs]
    split <;> rfl
def U.crash (u : U) (k : List Bool) : Int × U := ((picked u.P k).length, ⟨applied u.L (picked u.P k), [], true, -1⟩)
theorem st_crash (u : U) (k : List Bool) : u.st.crash k = ((u.crash k).1, (u.crash k).2.st) := by
  unfold D.St.crash U.crash
  rw [show u.st.P = u.P.map both8 from rfl, picked_ints]
  simp only [D.St.some, U.st, applied_ints, List.length_map, List.map_nil]
def U.arm (u : U) (n : Int) : Int × U := if n < 0 then (1, u) else if u.up = false then (10, u) else (0, { u with left := n })
theorem st_arm (u : U) (n : Int) : u.st.arm n = ((u.arm n).1, (u.arm n).2.st) := by
  unfold D.St.arm U.arm
  show (if n < 0 then _ else if u.up = false then _ else _) = _
  (repeat' split) <;> rfl
/-- Bytes in memory, in stage 1's words. -/
theorem bytes_ints {w : World} {E : Nat → Prop} {v : Value} {l : List UInt8} (h : K.BytesIn w E v l) : D.BytesIn w E v (ints l) := by
  obtain ⟨a, len, cap, h1, h2, h0, h3⟩ := h
  exact ⟨a, len, cap, h1, by simpa using h2, h0, by rw [u8s_ints]; exact h3⟩
theorem ints_bytes {w : World} {E : Nat → Prop} {v : Value} {l : List UInt8} (h : D.BytesIn w E v (ints l)) : K.BytesIn w E v l := by
  obtain ⟨a, len, cap, h1, h2, h0, h3⟩ := h
  exact ⟨a, len, cap, h1, by simpa using h2, h0, by rw [u8s_ints] at h3; exact h3⟩
end Go.Proofs.Ytlnolnaapnijbaa.L
