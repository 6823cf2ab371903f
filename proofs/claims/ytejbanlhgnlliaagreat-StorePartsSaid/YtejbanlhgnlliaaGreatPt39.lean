/-
  Part 39 of the proof: LogM.
-/
import Derived.Test.YtejbanlhgnlliaaGreatPt29
namespace Go.Proofs.YtejbanlhgnlliaaGreat.L
set_option maxRecDepth 100000
open Go.RowKit K

theorem write_idle {u : U} (h1 : u.up = true) (h2 : u.left = -1) {n : Nat} (hn : n < u.L.length) {b : List UInt8} (hb : b.length ≤ 64) : u.write n b = (0, { u with P := u.P ++ [(n, pad8 b)] }) := by
  have hs : u.spend = (true, u) := by unfold U.spend; rw [if_neg (by omega), if_pos h2]
  unfold U.write
  rw [if_neg (by simp [h1]), if_neg (by omega), if_neg (by omega), hs]
  simp
theorem flush_idle {u : U} (h1 : u.up = true) (h2 : u.left = -1) : u.flush = (0, { u with L := applied u.L u.P, P := [] }) := by
  have hs : u.spend = (true, u) := by unfold U.spend; rw [if_neg (by omega), if_pos h2]
  unfold U.flush
  rw [if_neg (by simp [h1]), hs]
  simp
theorem scan_none {h : Nat} {V : Nat → Option Pc} {n p : Nat} {c : Sc} (hV : V p = none) : scan h V n p c = (c.recs, c.next) := by
  cases n with
  | zero => rfl
  | succ n => rw [scan, hV]
theorem piece_zeros (e p : Nat) : piece e p (look zeros64) = none := if_neg (fun h => by rw [look_zeros] at h; simp at h)
theorem head_zeros : headLife (look zeros64) = 0 := if_neg (fun h => by rw [look_zeros] at h; simp at h)
def headSec (l : Nat) : List UInt8 := made 0 l 0 4 0 zeros48
theorem headSec_len (l : Nat) : (headSec l).length = 64 := made_length rfl
theorem head_headSec {l : Nat} (h : l < 4294967296) : headLife (look (headSec l)) = l := by
  unfold headSec
  rw [look_made (by decide) h (by decide) (by decide) (by decide)]
  exact if_pos ⟨rfl, rfl, rfl⟩
/-- The disk behind the first Open of a new one. -/
def opened1 (N first : Nat) : U := ⟨(List.replicate N zeros64).set first (headSec 1), [], true, -1⟩
theorem new_opens {N first count e : Nat} (hc : 2 ≤ count) (hf : first + count ≤ N) : (U.new N).opens first count e = (0, opened1 N first, some (⟨first, count, e, 1, 1⟩, [])) := by
  have hs : (U.new N).sec first = zeros64 := by
    simp only [U.sec, U.new, over, List.foldl_nil, List.getD_eq_getElem?_getD]
    rw [List.getElem?_replicate, if_pos (by omega)]
    rfl
  have hw : (U.new N).write first (headSec 1) = (0, { U.new N with P := [(first, headSec 1)] }) := by
    rw [write_idle rfl rfl (by simp [U.new]; omega) (by rw [headSec_len]; decide), pad8_all (headSec_len 1)]
    rfl
  have hb : (U.new N).begin first = (0, opened1 N first, 0) := by
    unfold U.begin
    rw [if_neg (by simp [U.new]), hs, head_zeros]
    simp only
    rw [if_neg (by decide)]
    have hw' : (U.new N).write (first : Nat) (made 0 (0 + 1) 0 4 0 zeros48) = (0, { U.new N with P := [(first, headSec 1)] }) := hw
    rw [hw']
    simp only
    rw [if_neg (by simp), flush_idle rfl rfl]
    rfl
  have hl : (opened1 N first).load first count e 0 = ([], 1) := by
    unfold U.load
    rw [scan_none]
    · rfl
    · show piece e 1 (look ((opened1 N first).sec (first + 1))) = none
      have : (opened1 N first).sec (first + 1) = zeros64 := by
        simp only [U.sec, opened1, over, List.foldl_nil, List.getD_eq_getElem?_getD]
        rw [List.getElem?_set_ne (by omega), List.getElem?_replicate, if_pos (by omega)]
        rfl
      rw [this, piece_zeros]
  unfold U.opens
  simp only [hb]
  rw [if_neg (by simp), hl]
theorem opened1_L (N first : Nat) : (opened1 N first).L.length = N := by simp [opened1]

theorem write_ne3 (u : U) (n : Int) (b : List UInt8) : (u.write n b).1 ≠ 3 := by
  unfold U.write
  (repeat' split) <;> simp
theorem puts_ne3 (g : Lg) (r : List UInt8) (n : Nat) : ∀ (m i : Nat) (u : U), (u.puts g r n m i).1 ≠ 3
  | 0, _, _ => by simp [U.puts]
  | m + 1, i, u => by
    rw [puts_step]
    simp only
    split
    · exact write_ne3 _ _ _
    · exact puts_ne3 g r n m _ _
theorem append_ok {u : U} {g : Lg} {l : List UInt8} (h : (u.append g l).1 = 0) : l.length ≤ 2000 ∧ g.next + secsN l ≤ g.count ∧ (u.puts g l (secsN l) (secsN l) 0).1 = 0 ∧ u.append g l = (0, (u.puts g l (secsN l) (secsN l) 0).2, { g with next := g.next + secsN l }) := by
  unfold U.append at *
  by_cases h1 : 2000 < l.length
  · rw [if_pos h1] at h; simp at h
  rw [if_neg h1] at h ⊢
  simp only at h ⊢
  by_cases h2 : g.count < g.next + secsN l
  · rw [if_pos h2] at h; simp at h
  rw [if_neg h2] at h ⊢
  by_cases h3 : (u.puts g l (secsN l) (secsN l) 0).1 ≠ 0
  · rw [if_pos h3] at h; exact absurd h h3
  rw [if_neg h3]
  exact ⟨by omega, by omega, Decidable.not_not.1 h3, rfl⟩
theorem append_err {u : U} {g : Lg} {l : List UInt8} (h : (u.append g l).1 ≠ 0) : (u.append g l).2.2 = g ∧ ((u.append g l).1 = 3 → g.count < g.next + secsN l) := by
  unfold U.append at *
  by_cases h1 : 2000 < l.length
  · rw [if_pos h1]; simp
  rw [if_neg h1] at h ⊢
  simp only at h ⊢
  by_cases h2 : g.count < g.next + secsN l
  · rw [if_pos h2]; exact ⟨rfl, fun _ => h2⟩
  rw [if_neg h2] at h ⊢
  by_cases h3 : (u.puts g l (secsN l) (secsN l) 0).1 ≠ 0
  · rw [if_pos h3]; exact ⟨rfl, fun e => absurd e (puts_ne3 _ _ _ _ _ _)⟩
  rw [if_neg h3] at h; simp at h
theorem append_first (u : U) (g : Lg) (l : List UInt8) : (u.append g l).2.2.first = g.first ∧ (u.append g l).2.2.count = g.count ∧ (u.append g l).2.2.epoch = g.epoch ∧ (u.append g l).2.2.life = g.life := by
  by_cases h : (u.append g l).1 = 0
  · rw [(append_ok h).2.2.2]; exact ⟨rfl, rfl, rfl, rfl⟩
  · rw [(append_err h).1]; exact ⟨rfl, rfl, rfl, rfl⟩
end Go.Proofs.YtejbanlhgnlliaaGreat.L
