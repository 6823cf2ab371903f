/-
  A log on a disk whose power is not armed. No program.
-/
import Derived.Test.YtfaogebnpbcnhaaLogJ
namespace Go.Proofs.Ytfaogebnpbcnhaa.L
set_option maxRecDepth 100000
open Go.RowKit K

structure U.Idle (u : U) : Prop where
  up : u.up = true
  left : u.left = -1
theorem puts_idle (g : Lg) (r : List UInt8) (n : Nat) : ∀ (k i : Nat) (u : U), u.Idle → g.first + (g.next + i + k) ≤ u.L.length → (u.puts g r n k i).1 = 0 ∧ (u.puts g r n k i).2.Idle
  | 0, _, _, h, _ => ⟨rfl, h⟩
  | k + 1, i, u, h, hl => by
    rw [puts_step]
    have hw := write_idle h.up h.left (n := g.first + (g.next + i)) (by omega) (b := recSec g r n i) (by rw [recSec_len]; decide)
    rw [hw]
    simp only
    rw [if_neg (by simp)]
    exact puts_idle g r n k (i + 1) _ ⟨h.up, h.left⟩ (by simp only; omega)
theorem append_idle {u : U} {g : Lg} {x : List UInt8} (h : u.Idle) (hl : g.first + g.count ≤ u.L.length) : (u.append g x).2.1.Idle ∧ (x.length ≤ 2000 → g.next + secsN x ≤ g.count → (u.append g x).1 = 0) ∧ (2000 < x.length → (u.append g x).1 = 2 ∧ (u.append g x).2.1 = u ∧ (u.append g x).2.2 = g) ∧ (x.length ≤ 2000 → ¬ g.next + secsN x ≤ g.count → (u.append g x).1 = 3 ∧ (u.append g x).2.1 = u ∧ (u.append g x).2.2 = g) := by
  unfold U.append
  by_cases h1 : 2000 < x.length
  · rw [if_pos h1]
    exact ⟨h, fun e => by omega, fun _ => ⟨rfl, rfl, rfl⟩, fun e => by omega⟩
  rw [if_neg h1]
  simp only
  by_cases h2 : g.count < g.next + secsN x
  · rw [if_pos h2]
    exact ⟨h, fun _ e => by omega, fun e => absurd e h1, fun _ _ => ⟨rfl, rfl, rfl⟩⟩
  rw [if_neg h2]
  obtain ⟨p1, p2⟩ := puts_idle g x (secsN x) (secsN x) 0 u h (by omega)
  rw [if_neg (by simpa using p1)]
  exact ⟨p2, fun _ _ => rfl, fun e => absurd e h1, fun _ e => by omega⟩
theorem opens_idle {u : U} {first count e h : Nat} (hi : u.Idle) (hP : u.P = []) (hf : first + count ≤ u.L.length) (hc : 2 ≤ count) (hd : headLife (look (u.L.getD first [])) = h) (hh : h + 1 < 4294967296) :
    u.opens first count e = (0, ⟨u.L.set first (headSec (h + 1)), [], true, -1⟩, some (⟨first, count, e, h + 1, (scan h (viewL u.L first count e) (count - 1) 1 sc0).2⟩, (scan h (viewL u.L first count e) (count - 1) 1 sc0).1)) := by
  have hs : u.sec first = u.L.getD first [] := by simp [U.sec, hP, over]
  have hsec : headLife (look (u.sec first)) = h := by rw [hs]; exact hd
  have hw := write_idle hi.up hi.left (n := first) (by omega) (b := headSec (h + 1)) (by rw [headSec_len]; decide)
  rw [hP, pad8_all (headSec_len _), List.nil_append] at hw
  have hb : u.begin first = (0, ⟨u.L.set first (headSec (h + 1)), [], true, -1⟩, h) := by
    unfold U.begin
    rw [if_neg (by simp [hi.up]), hsec]
    simp only
    rw [if_neg (by omega)]
    have hw' : u.write (first : Nat) (made 0 (h + 1) 0 4 0 zeros48) = (0, { u with P := [(first, headSec (h + 1))] }) := hw
    rw [hw']
    simp only
    rw [if_neg (by simp), flush_idle (u := { u with P := [(first, headSec (h + 1))] }) hi.up hi.left]
    simp only [applied, List.foldl_cons, List.foldl_nil, hi.up, hi.left]
  have hvf : viewL (u.L.set first (headSec (h + 1))) first count e = viewL u.L first count e := funext fun p => viewL_same (fun h1 _ => getD_set_ne' (by omega))
  have hlo : U.load ⟨u.L.set first (headSec (h + 1)), [], true, -1⟩ first count e h = scan h (viewL u.L first count e) (count - 1) 1 sc0 := by rw [load_view rfl]; simp only; rw [hvf]
  unfold U.opens
  rw [hb]
  simp only
  rw [if_neg (by simp), hlo]
theorem flush_is {u : U} (h : u.Idle) : u.flush = (0, ⟨applied u.L u.P, [], true, -1⟩) := by
  rw [flush_idle h.up h.left]
  obtain ⟨L, P, up, left⟩ := u
  obtain ⟨h1, h2⟩ := h
  simp only at h1 h2
  subst h1; subst h2
  rfl
theorem crash_idle (u : U) (k : List Bool) : (u.crash k).2.Idle ∧ (u.crash k).2.P = [] ∧ (u.crash k).2.L = applied u.L (picked u.P k) := ⟨⟨rfl, rfl⟩, rfl, rfl⟩
theorem zero_get {N i : Nat} (h : i < N) : (List.replicate N zeros64).getD i [] = zeros64 := by
  rw [List.getD_eq_getElem?_getD, List.getElem?_replicate, if_pos h]
  rfl
theorem base_new {N first count e : Nat} (hc : 2 ≤ count) (hf : first + count ≤ N) : Base (List.replicate N zeros64) first count e 0 := by
  refine ⟨by simpa using hf, hc, by rw [zero_get (by omega), head_zeros], fun p x hx => ?_⟩
  unfold viewL at hx
  split at hx
  · rename_i hp
    rw [zero_get (by omega), piece_zeros] at hx
    cases hx
  · cases hx
theorem live_new {N first count e : Nat} (hc : 2 ≤ count) (hf : first + count ≤ N) (h16 : count ≤ 4096) (he : e < 4294967296) : Live (opened1 N first) ⟨first, count, e, 1, 1⟩ first count e 0 [] [] := by
  have hb := base_new (e := e) hc hf
  have ho := new_opens (e := e) hc hf
  rcases Base.opens (u := U.new N) hb rfl rfl (by decide) h16 he with ⟨_, g, h2, h3, _⟩ | ⟨h1, _⟩
  · rw [ho] at h2 h3
    simp only [Option.some.injEq, Prod.mk.injEq] at h2
    rw [← h2.2, ← h2.1] at h3
    exact h3
  · rw [ho] at h1
    simp at h1
theorem opened1_idle (N first : Nat) : (opened1 N first).Idle := ⟨rfl, rfl⟩
theorem puts_more (g : Lg) (r : List UInt8) (n : Nat) : ∀ (k i : Nat) (u : U), ∃ M, (u.puts g r n k i).2.P = u.P ++ M ∧ ∀ p ∈ M, g.first + g.next ≤ p.1
  | 0, _, u => ⟨[], by simp [U.puts], by simp⟩
  | k + 1, i, u => by
    rw [puts_step]
    simp only
    have hw : ∃ M, (u.write (g.first + (g.next + i) : Nat) (recSec g r n i)).2.P = u.P ++ M ∧ ∀ p ∈ M, g.first + g.next ≤ p.1 := by
      unfold U.write
      (repeat' split)
      all_goals first
        | (refine ⟨[(g.first + (g.next + i), pad8 (recSec g r n i))], rfl, ?_⟩
           intro p hp
           simp at hp
           rw [hp]
           simp only
           omega)
        | (refine ⟨[], ?_, ?_⟩ <;> simp)
    obtain ⟨M, hM, hM'⟩ := hw
    split
    · exact ⟨M, hM, hM'⟩
    · obtain ⟨M2, h2, h2'⟩ := puts_more g r n k (i + 1) (u.write (g.first + (g.next + i) : Nat) (recSec g r n i)).2
      refine ⟨M ++ M2, by rw [h2, hM]; simp, fun p hp => ?_⟩
      rcases List.mem_append.1 hp with hp | hp
      · exact hM' p hp
      · exact h2' p hp
theorem append_more (u : U) (g : Lg) (x : List UInt8) : (∃ M, (u.append g x).2.1.P = u.P ++ M ∧ ∀ p ∈ M, g.first + g.next ≤ p.1) ∧ g.next ≤ (u.append g x).2.2.next := by
  unfold U.append
  split
  · exact ⟨⟨[], by simp, by simp⟩, Nat.le_refl _⟩
  · simp only
    split
    · exact ⟨⟨[], by simp, by simp⟩, Nat.le_refl _⟩
    · split
      · exact ⟨puts_more _ _ _ _ _ _, Nat.le_refl _⟩
      · exact ⟨puts_more _ _ _ _ _ _, by simp⟩
end Go.Proofs.Ytfaogebnpbcnhaa.L
