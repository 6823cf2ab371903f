/-
  SHA-256, as mathematics: words are numbers below 2^32; and how the kernel reckons it best. No program.
-/
import Derived.Laws.BitsAllLaws
namespace Go.Proofs.YtejbanlhgnlliaaDoor.SH
set_option maxRecDepth 100000
def R (n x : Nat) : Nat := x / 2 ^ n ||| x * 2 ^ (32 - n) % 4294967296
def g0 (x : Nat) : Nat := R 7 x ^^^ R 18 x ^^^ x / 2 ^ 3
def g1 (x : Nat) : Nat := R 17 x ^^^ R 19 x ^^^ x / 2 ^ 10
def e1 (x : Nat) : Nat := R 6 x ^^^ R 11 x ^^^ R 25 x
def e0 (x : Nat) : Nat := R 2 x ^^^ R 13 x ^^^ R 22 x
def ch (e f g : Nat) : Nat := (e &&& f) ^^^ ((4294967295 - e) &&& g)
def maj (a b c : Nat) : Nat := (a &&& b) ^^^ (a &&& c) ^^^ (b &&& c)
def upd (f : Nat → Nat) (i x : Nat) : Nat → Nat := fun j => if j = i then x else f j
def kl : List Nat := [0x428a2f98, 0x71374491, 0xb5c0fbcf, 0xe9b5dba5, 0x3956c25b, 0x59f111f1, 0x923f82a4, 0xab1c5ed5,
  0xd807aa98, 0x12835b01, 0x243185be, 0x550c7dc3, 0x72be5d74, 0x80deb1fe, 0x9bdc06a7, 0xc19bf174,
  0xe49b69c1, 0xefbe4786, 0x0fc19dc6, 0x240ca1cc, 0x2de92c6f, 0x4a7484aa, 0x5cb0a9dc, 0x76f988da,
  0x983e5152, 0xa831c66d, 0xb00327c8, 0xbf597fc7, 0xc6e00bf3, 0xd5a79147, 0x06ca6351, 0x14292967,
  0x27b70a85, 0x2e1b2138, 0x4d2c6dfc, 0x53380d13, 0x650a7354, 0x766a0abb, 0x81c2c92e, 0x92722c85,
  0xa2bfe8a1, 0xa81a664b, 0xc24b8b70, 0xc76c51a3, 0xd192e819, 0xd6990624, 0xf40e3585, 0x106aa070,
  0x19a4c116, 0x1e376c08, 0x2748774c, 0x34b0bcb5, 0x391c0cb3, 0x4ed8aa4a, 0x5b9cca4f, 0x682e6ff3,
  0x748f82ee, 0x78a5636f, 0x84c87814, 0x8cc70208, 0x90befffa, 0xa4506ceb, 0xbef9a3f7, 0xc67178f2]
def hl : List Nat := [0x6a09e667, 0xbb67ae85, 0x3c6ef372, 0xa54ff53a, 0x510e527f, 0x9b05688c, 0x1f83d9ab, 0x5be0cd19]
def kc (i : Nat) : Nat := kl.getD i 0
def h0 (i : Nat) : Nat := hl.getD i 0
/-- The words of a block, n of them reckoned. -/
def wS (m : Nat → Nat) : Nat → Nat → Nat
  | 0 => m
  | n + 1 => upd (wS m n) (n + 16) ((wS m n n + wS m n (n + 9) + g0 (wS m n (n + 1)) + g1 (wS m n (n + 14))) % 4294967296)
def rx (k w : Nat) (s : Nat → Nat) : Nat := (s 7 + e1 (s 4) + ch (s 4) (s 5) (s 6) + k + w) % 4294967296
def ry (s : Nat → Nat) : Nat := (e0 (s 0) + maj (s 0) (s 1) (s 2)) % 4294967296
/-- A round. -/
def rd (k w : Nat) (s : Nat → Nat) : Nat → Nat
  | 0 => (rx k w s + ry s) % 4294967296
  | 1 => s 0
  | 2 => s 1
  | 3 => s 2
  | 4 => (s 3 + rx k w s) % 4294967296
  | 5 => s 4
  | 6 => s 5
  | 7 => s 6
  | _ => 0
def rds (w h : Nat → Nat) : Nat → Nat → Nat
  | 0 => h
  | n + 1 => rd (kc n) (w n) (rds w h n)
/-- A block of words m into the state h. -/
def comp (h m : Nat → Nat) : Nat → Nat := fun i => (h i + rds (wS m 48) h 64 i) % 4294967296

/-! ### As the kernel reckons it best: each number before it is used -/
def seq {α : Type} (n : Nat) (k : Nat → α) : α := Nat.rec (motive := fun _ => α) (k 0) (fun m _ => k (m + 1)) n
theorem seq_eq {α : Type} (n : Nat) (k : Nat → α) : seq n k = k n := by cases n <;> rfl
def wl : Nat → List Nat → List Nat
  | 0, l => l
  | n + 1, l => seq ((l.getD 15 0 + l.getD 6 0 + g0 (l.getD 14 0) + g1 (l.getD 1 0)) % 4294967296) fun x => wl n (x :: l)
def rl : List Nat → List Nat → Nat → Nat → Nat → Nat → Nat → Nat → Nat → Nat → List Nat
  | k :: ks, w :: ws, a, b, c, d, e, f, g, h => seq ((h + e1 e + ch e f g + k + w) % 4294967296) fun x => seq ((x + (e0 a + maj a b c) % 4294967296) % 4294967296) fun a' => seq ((d + x) % 4294967296) fun e' => rl ks ws a' a b c e' e f g
  | _, _, a, b, c, d, e, f, g, h => [a, b, c, d, e, f, g, h]

theorem wS_low (m : Nat → Nat) (n : Nat) {j : Nat} (h : j < n + 16) : wS m (n + 1) j = wS m n j := by
  show (if j = n + 16 then _ else wS m n j) = _
  rw [if_neg (by omega)]
theorem wS_new (m : Nat → Nat) (n : Nat) : wS m (n + 1) (n + 16) = (wS m n n + wS m n (n + 9) + g0 (wS m n (n + 1)) + g1 (wS m n (n + 14))) % 4294967296 := by
  show (if n + 16 = n + 16 then _ else _) = _
  rw [if_pos rfl]
def wrow (m : Nat → Nat) (n : Nat) : List Nat := (List.range (n + 16)).map (wS m n)
theorem wrow_get (m : Nat → Nat) (n : Nat) {j : Nat} (h : j < n + 16) : (wrow m n).reverse.getD j 0 = wS m n (n + 15 - j) := by
  unfold wrow
  rw [List.getD_eq_getElem?_getD, List.getElem?_reverse (by simpa using h)]
  simp only [List.length_map, List.length_range]
  rw [List.getElem?_map, List.getElem?_range (by omega)]
  simp only [Option.map_some, Option.getD_some]
  congr 1
theorem wrow_next (m : Nat → Nat) (n : Nat) : wrow m (n + 1) = wrow m n ++ [(wS m n n + wS m n (n + 9) + g0 (wS m n (n + 1)) + g1 (wS m n (n + 14))) % 4294967296] := by
  unfold wrow
  rw [show n + 1 + 16 = (n + 16) + 1 by omega, List.range_succ, List.map_append, List.map_cons, List.map_nil, wS_new]
  congr 1
  exact List.map_congr_left fun j hj => wS_low m n (List.mem_range.1 hj)
theorem wl_eq (m : Nat → Nat) : ∀ k n, wl k (wrow m n).reverse = (wrow m (n + k)).reverse
  | 0, n => rfl
  | k + 1, n => by
    show seq _ (fun x => wl k (x :: (wrow m n).reverse)) = _
    rw [seq_eq, wrow_get m n (by omega), wrow_get m n (by omega), wrow_get m n (by omega), wrow_get m n (by omega),
      show n + 15 - 15 = n by omega, show n + 15 - 6 = n + 9 by omega, show n + 15 - 14 = n + 1 by omega, show n + 15 - 1 = n + 14 by omega]
    have h := wl_eq m k (n + 1)
    rw [wrow_next, List.reverse_append, show n + 1 + k = n + (k + 1) by omega] at h
    exact h
def at8 (s : Nat → Nat) : List Nat := [s 0, s 1, s 2, s 3, s 4, s 5, s 6, s 7]
theorem rl_eq (w h : Nat → Nat) : ∀ n, n ≤ 64 → rl (kl.drop (64 - n)) (((List.range 64).map w).drop (64 - n)) (rds w h (64 - n) 0) (rds w h (64 - n) 1) (rds w h (64 - n) 2) (rds w h (64 - n) 3) (rds w h (64 - n) 4) (rds w h (64 - n) 5) (rds w h (64 - n) 6) (rds w h (64 - n) 7) = at8 (rds w h 64)
  | 0, _ => by
    have : kl.drop (64 - 0) = [] := by rfl
    rw [this]
    rfl
  | n + 1, hn => by
    obtain ⟨j, hj⟩ : ∃ j, 64 - (n + 1) = j := ⟨_, rfl⟩
    have ih := rl_eq w h n (by omega)
    rw [show 64 - n = j + 1 by omega] at ih
    rw [hj]
    have hk : kl.drop j = kc j :: kl.drop (j + 1) := by
      have hl : j < kl.length := by show j < 64; omega
      rw [List.drop_eq_getElem_cons hl]
      congr 1
      simp [kc, List.getD, hl]
    have hw : ((List.range 64).map w).drop j = w j :: ((List.range 64).map w).drop (j + 1) := by
      rw [List.drop_eq_getElem_cons (by simp; omega)]
      simp
    rw [hk, hw]
    show seq _ (fun x => seq _ fun a' => seq _ fun e' => rl _ _ a' _ _ _ e' _ _ _) = _
    rw [seq_eq, seq_eq, seq_eq]
    exact ih
def fast (h m : List Nat) : List Nat := rl kl (wl 48 m.reverse).reverse (h.getD 0 0) (h.getD 1 0) (h.getD 2 0) (h.getD 3 0) (h.getD 4 0) (h.getD 5 0) (h.getD 6 0) (h.getD 7 0)
def lit (l : List Nat) : Nat → Nat := fun i => l.getD i 0
theorem fast_eq (h m : List Nat) (hm : m.length = 16) : fast h m = at8 (rds (wS (lit m) 48) (lit h) 64) := by
  have e : m = wrow (lit m) 0 := by
    refine List.ext_getElem? fun i => ?_
    unfold wrow
    by_cases hi : i < 16
    · rw [List.getElem?_map, List.getElem?_range (by omega)]
      simp [wS, lit, List.getD, hm, hi]
    · rw [List.getElem?_eq_none (by omega), List.getElem?_eq_none (by simp; omega)]
  have h1 := wl_eq (lit m) 48 0
  rw [← e] at h1
  have h2 := rl_eq (wS (lit m) 48) (lit h) 64 (Nat.le_refl _)
  unfold fast
  rw [h1, List.reverse_reverse]
  exact h2
theorem out_of (h : List Nat) (q : Nat → Nat) (r : List Nat) (hr : (((at8 q).zip h).map fun p => (p.2 + p.1) % 4294967296) = r) (hh : h.length = 8) : ∀ i, i < 8 → (lit h i + q i) % 4294967296 = lit r i := by
  intro i hi
  subst hr
  match h, hh with
  | [a, b, c, d, e, f, g, k], _ =>
    have : i = 0 ∨ i = 1 ∨ i = 2 ∨ i = 3 ∨ i = 4 ∨ i = 5 ∨ i = 6 ∨ i = 7 := by omega
    rcases this with rfl | rfl | rfl | rfl | rfl | rfl | rfl | rfl <;> simp [lit, at8]
theorem comp_def (h m : Nat → Nat) (i : Nat) : comp h m i = (h i + rds (wS m 48) h 64 i) % 4294967296 := by rw [comp]
/-- A block, out of lists. -/
theorem comp_of (h m r : List Nat) (hm : m.length = 16) (hr : (((fast h m).zip h).map fun p => (p.2 + p.1) % 4294967296) = r) (hh : h.length = 8) : ∀ i, i < 8 → comp (lit h) (lit m) i = lit r i := by
  intro i hi
  rw [fast_eq h m hm] at hr
  rw [comp_def]
  exact out_of h _ r hr hh i hi
end Go.Proofs.YtejbanlhgnlliaaDoor.SH
