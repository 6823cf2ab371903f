/-
  The chapter's examples of SHA-256 and HMAC, block by block, as numbers. No program.
-/
import Derived.Test.YtejbanlhgnlliaaDoorShaD
namespace Go.Proofs.YtejbanlhgnlliaaDoor.SH
set_option maxRecDepth 100000

theorem wS_congr {m m' : Nat → Nat} (h : ∀ i, i < 16 → m i = m' i) : ∀ n j, j < n + 16 → wS m n j = wS m' n j
  | 0, j, hj => h j hj
  | n + 1, j, hj => by
    by_cases e : j = n + 16
    · subst e
      rw [wS_new, wS_new, wS_congr h n n (by omega), wS_congr h n (n + 9) (by omega), wS_congr h n (n + 1) (by omega), wS_congr h n (n + 14) (by omega)]
    · rw [wS_low _ _ (by omega), wS_low _ _ (by omega), wS_congr h n j (by omega)]
theorem rd_congr (k w : Nat) {s s' : Nat → Nat} (h : ∀ i, i < 8 → s i = s' i) : ∀ i, i < 8 → rd k w s i = rd k w s' i := by
  intro i hi
  have hx : rx k w s = rx k w s' := by unfold rx; rw [h 7 (by decide), h 4 (by decide), h 5 (by decide), h 6 (by decide)]
  have hy : ry s = ry s' := by unfold ry; rw [h 0 (by decide), h 1 (by decide), h 2 (by decide)]
  have : i = 0 ∨ i = 1 ∨ i = 2 ∨ i = 3 ∨ i = 4 ∨ i = 5 ∨ i = 6 ∨ i = 7 := by omega
  rcases this with rfl | rfl | rfl | rfl | rfl | rfl | rfl | rfl
  · show (rx k w s + ry s) % 4294967296 = (rx k w s' + ry s') % 4294967296
    rw [hx, hy]
  · exact h 0 (by decide)
  · exact h 1 (by decide)
  · exact h 2 (by decide)
  · show (s 3 + rx k w s) % 4294967296 = (s' 3 + rx k w s') % 4294967296
    rw [hx, h 3 (by decide)]
  · exact h 4 (by decide)
  · exact h 5 (by decide)
  · exact h 6 (by decide)
theorem rds_congr {w w' h h' : Nat → Nat} (hw : ∀ i, i < 64 → w i = w' i) (hh : ∀ i, i < 8 → h i = h' i) : ∀ n, n ≤ 64 → ∀ i, i < 8 → rds w h n i = rds w' h' n i
  | 0, _ => hh
  | n + 1, hn => by
    show ∀ i, i < 8 → rd (kc n) (w n) (rds w h n) i = rd (kc n) (w' n) (rds w' h' n) i
    rw [hw n (by omega)]
    exact rd_congr _ _ (rds_congr hw hh n (by omega))
theorem comp_congr {h h' m m' : Nat → Nat} (hh : ∀ i, i < 8 → h i = h' i) (hm : ∀ i, i < 16 → m i = m' i) : ∀ i, i < 8 → comp h m i = comp h' m' i := fun i hi => by
  rw [comp_def, comp_def, hh i hi, rds_congr (fun j hj => wS_congr hm 48 j (by omega)) hh 64 (Nat.le_refl _) i hi]
def words (l : List UInt8) (n : Nat) : List Nat := (List.range 16).map fun i => word l (64 * n + 4 * i)
theorem hs_step {l : List UInt8} {n : Nat} (p m r : List Nat) (hp : ∀ i, i < 8 → hs l n i = lit p i) (hm : words l n = m) (hr : (((fast p m).zip p).map fun q => (q.2 + q.1) % 4294967296) = r) (hl : p.length = 8) : ∀ i, i < 8 → hs l (n + 1) i = lit r i := by
  have hml : m.length = 16 := by rw [← hm]; simp [words]
  have hw : ∀ i, i < 16 → (fun i => word l (64 * n + 4 * i)) i = lit m i := fun i hi => by
    subst hm
    simp [lit, words, List.getD, hi]
  intro i hi
  exact (comp_congr hp hw i hi).trans (comp_of p m r hml hr hl i hi)
theorem hs_zero (l : List UInt8) : ∀ i, i < 8 → hs l 0 i = lit hl i := fun _ _ => rfl
/-- A digest, out of its state. -/
theorem dig_of {l : List UInt8} {n : Nat} (r : List Nat) (hn : (pad l).length / 64 = n) (h : ∀ i, i < 8 → hs (pad l) n i = lit r i) {i : Nat} (hi : i < 32) : dig l i = lit r (i / 4) / 2 ^ (24 - i % 4 * 8) % 256 := by
  unfold dig
  rw [hn, h _ (by omega)]

theorem xe_n : (pad ([] : List UInt8)).length / 64 = 1 := by decide +kernel
def xe_m0 : List Nat := [2147483648, 0, 0, 0, 0, 0, 0, 0, 0, 0, 0, 0, 0, 0, 0, 0]
def xe_s1 : List Nat := [3820012610, 2566659092, 2600203464, 2574235940, 665731556, 1687917388, 2761267483, 2018687061]
theorem xe_h1 : ∀ i, i < 8 → hs (pad ([] : List UInt8)) 1 i = lit xe_s1 i := hs_step hl xe_m0 xe_s1 (hs_zero _) (by decide +kernel) (by decide +kernel) rfl
theorem xa_n : (pad ([97, 98, 99] : List UInt8)).length / 64 = 1 := by decide +kernel
def xa_m0 : List Nat := [1633837952, 0, 0, 0, 0, 0, 0, 0, 0, 0, 0, 0, 0, 0, 0, 24]
def xa_s1 : List Nat := [3128432319, 2399260650, 1094795486, 1571693091, 2953011619, 2518121116, 3021012833, 4060091821]
theorem xa_h1 : ∀ i, i < 8 → hs (pad ([97, 98, 99] : List UInt8)) 1 i = lit xa_s1 i := hs_step hl xa_m0 xa_s1 (hs_zero _) (by decide +kernel) (by decide +kernel) rfl
def foxKey : List UInt8 := ([107, 101, 121] : List UInt8)
def fox : List UInt8 := ([84, 104, 101, 32, 113, 117, 105, 99, 107, 32, 98, 114, 111, 119, 110, 32, 102, 111, 120, 32, 106, 117, 109, 112, 115, 32, 111, 118, 101, 114, 32, 116, 104, 101, 32, 108, 97, 122, 121, 32, 100, 111, 103] : List UInt8)
def foxIn : List UInt8 := ([93, 83, 79, 54, 54, 54, 54, 54, 54, 54, 54, 54, 54, 54, 54, 54, 54, 54, 54, 54, 54, 54, 54, 54, 54, 54, 54, 54, 54, 54, 54, 54, 54, 54, 54, 54, 54, 54, 54, 54, 54, 54, 54, 54, 54, 54, 54, 54, 54, 54, 54, 54, 54, 54, 54, 54, 54, 54, 54, 54, 54, 54, 54, 54, 84, 104, 101, 32, 113, 117, 105, 99, 107, 32, 98, 114, 111, 119, 110, 32, 102, 111, 120, 32, 106, 117, 109, 112, 115, 32, 111, 118, 101, 114, 32, 116, 104, 101, 32, 108, 97, 122, 121, 32, 100, 111, 103] : List UInt8)
def foxMid : List UInt8 := ([122, 208, 78, 90, 161, 158, 238, 114, 24, 44, 154, 117, 172, 113, 186, 19, 131, 60, 83, 252, 77, 200, 200, 21, 206, 183, 148, 109, 86, 46, 54, 49] : List UInt8)
def foxOut : List UInt8 := ([55, 57, 37, 92, 92, 92, 92, 92, 92, 92, 92, 92, 92, 92, 92, 92, 92, 92, 92, 92, 92, 92, 92, 92, 92, 92, 92, 92, 92, 92, 92, 92, 92, 92, 92, 92, 92, 92, 92, 92, 92, 92, 92, 92, 92, 92, 92, 92, 92, 92, 92, 92, 92, 92, 92, 92, 92, 92, 92, 92, 92, 92, 92, 92, 122, 208, 78, 90, 161, 158, 238, 114, 24, 44, 154, 117, 172, 113, 186, 19, 131, 60, 83, 252, 77, 200, 200, 21, 206, 183, 148, 109, 86, 46, 54, 49] : List UInt8)
theorem xi_n : (pad foxIn).length / 64 = 2 := by decide +kernel
def xi_m0 : List Nat := [1565740854, 909522486, 909522486, 909522486, 909522486, 909522486, 909522486, 909522486, 909522486, 909522486, 909522486, 909522486, 909522486, 909522486, 909522486, 909522486]
def xi_s1 : List Nat := [3463233850, 1209983353, 1948250410, 931006173, 2786082441, 1688769380, 1812149899, 2195516213]
theorem xi_h1 : ∀ i, i < 8 → hs (pad foxIn) 1 i = lit xi_s1 i := hs_step hl xi_m0 xi_s1 (hs_zero _) (by decide +kernel) (by decide +kernel) rfl
def xi_m1 : List Nat := [1416127776, 1903520099, 1797284466, 1870097952, 1718581280, 1786080624, 1931505526, 1701978228, 1751457900, 1635416352, 1685022592, 0, 0, 0, 0, 856]
def xi_s2 : List Nat := [2060471898, 2711547506, 405576309, 2893134355, 2201768956, 1305004053, 3468137581, 1445869105]
theorem xi_h2 : ∀ i, i < 8 → hs (pad foxIn) 2 i = lit xi_s2 i := hs_step xi_s1 xi_m1 xi_s2 (xi_h1) (by decide +kernel) (by decide +kernel) rfl
theorem xo_n : (pad foxOut).length / 64 = 2 := by decide +kernel
def xo_m0 : List Nat := [926491996, 1549556828, 1549556828, 1549556828, 1549556828, 1549556828, 1549556828, 1549556828, 1549556828, 1549556828, 1549556828, 1549556828, 1549556828, 1549556828, 1549556828, 1549556828]
def xo_s1 : List Nat := [1038912318, 2125183980, 2145836365, 388479433, 382557374, 3463237723, 1494055132, 2848212322]
theorem xo_h1 : ∀ i, i < 8 → hs (pad foxOut) 1 i = lit xo_s1 i := hs_step hl xo_m0 xo_s1 (hs_zero _) (by decide +kernel) (by decide +kernel) rfl
def xo_m1 : List Nat := [2060471898, 2711547506, 405576309, 2893134355, 2201768956, 1305004053, 3468137581, 1445869105, 2147483648, 0, 0, 0, 0, 0, 0, 768]
def xo_s2 : List Nat := [4156326900, 810779684, 2972883174, 2859446595, 4014823841, 1229330265, 2538053052, 756694232]
theorem xo_h2 : ∀ i, i < 8 → hs (pad foxOut) 2 i = lit xo_s2 i := hs_step xo_s1 xo_m1 xo_s2 (xo_h1) (by decide +kernel) (by decide +kernel) rfl
theorem key_eq : key64 foxKey = foxKey ++ List.replicate 61 0 := by unfold key64; rw [if_neg (by decide), if_neg (by decide)]; rfl
theorem in_eq : with_ 54 (key64 foxKey) ++ fox = foxIn := by rw [key_eq]; decide +kernel
theorem mid_eq : digL foxIn = foxMid := by
  have e : digL foxIn = (List.range 32).map fun i => UInt8.ofNat (lit xi_s2 (i / 4) / 2 ^ (24 - i % 4 * 8) % 256) := List.map_congr_left fun i hi => by
    rw [dig_of xi_s2 xi_n xi_h2 (List.mem_range.1 hi)]
  rw [e]
  decide +kernel
theorem out_eq : with_ 92 (key64 foxKey) ++ foxMid = foxOut := by rw [key_eq]; decide +kernel
theorem mac_eq : mac foxKey fox = dig foxOut := by unfold mac; rw [in_eq, mid_eq, out_eq]
theorem none_dig : dig ([] : List UInt8) 0 = 227 ∧ dig ([] : List UInt8) 1 = 176 ∧ dig ([] : List UInt8) 2 = 196 ∧ dig ([] : List UInt8) 3 = 66 := by
  rw [dig_of xe_s1 xe_n xe_h1 (i := 0) (by decide), dig_of xe_s1 xe_n xe_h1 (i := 1) (by decide), dig_of xe_s1 xe_n xe_h1 (i := 2) (by decide), dig_of xe_s1 xe_n xe_h1 (i := 3) (by decide)]
  decide +kernel
theorem abc_dig : dig ([97, 98, 99] : List UInt8) 0 = 186 ∧ dig ([97, 98, 99] : List UInt8) 1 = 120 ∧ dig ([97, 98, 99] : List UInt8) 2 = 22 ∧ dig ([97, 98, 99] : List UInt8) 3 = 191 := by
  rw [dig_of xa_s1 xa_n xa_h1 (i := 0) (by decide), dig_of xa_s1 xa_n xa_h1 (i := 1) (by decide), dig_of xa_s1 xa_n xa_h1 (i := 2) (by decide), dig_of xa_s1 xa_n xa_h1 (i := 3) (by decide)]
  decide +kernel
theorem fox_dig : dig foxOut 0 = 247 ∧ dig foxOut 1 = 188 ∧ dig foxOut 2 = 131 ∧ dig foxOut 3 = 244 := by
  rw [dig_of xo_s2 xo_n xo_h2 (i := 0) (by decide), dig_of xo_s2 xo_n xo_h2 (i := 1) (by decide), dig_of xo_s2 xo_n xo_h2 (i := 2) (by decide), dig_of xo_s2 xo_n xo_h2 (i := 3) (by decide)]
  decide +kernel
end Go.Proofs.YtejbanlhgnlliaaDoor.SH
