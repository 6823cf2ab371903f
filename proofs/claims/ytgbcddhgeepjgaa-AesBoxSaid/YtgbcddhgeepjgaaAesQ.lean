/-
  Package aes: the standard's example, round by round, as numbers.
-/
import Derived.Test.YtgbcddhgeepjgaaAesC
namespace Go.Proofs.Ytgbcddhgeepjgaa.AE
set_option maxRecDepth 100000

def lit (l : List Nat) : Nat → Nat := fun i => l.getD i 0
def ris (s : Nat) : Nat → Nat := fun i => s * i % 256
def boxF (b : Nat) : Nat := boxOf (prF 7 1 b)
theorem box_fast : box = boxF := by
  funext b
  rw [boxF, inv_fast]
  rfl
/-- A round key as the kernel reckons it best. -/
def folF (f : Nat → Nat) (c : Nat) : Nat → Nat := fun i => f i ^^^ tS (wt (boxF (f 13) ^^^ c) (boxF (f 14)) (boxF (f 15)) (boxF (f 12))) f i (i % 4)
theorem fol_fast : fol = folF := by
  funext f c i
  rw [fol, folF, t0, box_fast]
theorem e_of {f g : Nat → Nat} (h : ((List.range 16).all fun i => f i == g i) = true) : E f g := fun i hi => eq_of_beq (List.all_eq_true.1 h i (List.mem_range.2 hi))
theorem tS_congr {t t' f g : Nat → Nat} (ht : ∀ r, t r = t' r) (h : E f g) : ∀ n, n ≤ 16 → ∀ r, tS t f n r = tS t' g n r
  | 0, _, r => ht r
  | n + 1, hn, r => by
    show (if r = n % 4 then f n ^^^ tS t f n (n % 4) else tS t f n r) = (if r = n % 4 then g n ^^^ tS t' g n (n % 4) else tS t' g n r)
    rw [tS_congr ht h n (by omega), tS_congr ht h n (by omega), h n (by omega)]
theorem E.fol {f g : Nat → Nat} (h : E f g) (c : Nat) : E (fol f c) (fol g c) := fun i hi => by
  have ht : ∀ r, t0 f c r = t0 g c r := fun r => by unfold t0; rw [h 12 (by decide), h 13 (by decide), h 14 (by decide), h 15 (by decide)]
  show f i ^^^ tS (t0 f c) f i (i % 4) = _
  rw [tS_congr ht h i (by omega), h i hi]
  rfl
def kl0 : List Nat := [0, 1, 2, 3, 4, 5, 6, 7, 8, 9, 10, 11, 12, 13, 14, 15]
def kl1 : List Nat := [214, 170, 116, 253, 210, 175, 114, 250, 218, 166, 120, 241, 214, 171, 118, 254]
def kl2 : List Nat := [182, 146, 207, 11, 100, 61, 189, 241, 190, 155, 197, 0, 104, 48, 179, 254]
def kl3 : List Nat := [182, 255, 116, 78, 210, 194, 201, 191, 108, 89, 12, 191, 4, 105, 191, 65]
def kl4 : List Nat := [71, 247, 247, 188, 149, 53, 62, 3, 249, 108, 50, 188, 253, 5, 141, 253]
def kl5 : List Nat := [60, 170, 163, 232, 169, 159, 157, 235, 80, 243, 175, 87, 173, 246, 34, 170]
def kl6 : List Nat := [94, 57, 15, 125, 247, 166, 146, 150, 167, 85, 61, 193, 10, 163, 31, 107]
def kl7 : List Nat := [20, 249, 112, 26, 227, 95, 226, 140, 68, 10, 223, 77, 78, 169, 192, 38]
def kl8 : List Nat := [71, 67, 135, 53, 164, 28, 101, 185, 224, 22, 186, 244, 174, 191, 122, 210]
def kl9 : List Nat := [84, 153, 50, 209, 240, 133, 87, 104, 16, 147, 237, 156, 190, 44, 151, 78]
def kl10 : List Nat := [19, 17, 29, 127, 227, 148, 74, 23, 243, 7, 167, 139, 77, 43, 48, 197]
def sl0 : List Nat := [0, 16, 32, 48, 64, 80, 96, 112, 128, 144, 160, 176, 192, 208, 224, 240]
def sl1 : List Nat := [137, 216, 16, 232, 133, 90, 206, 104, 45, 24, 67, 216, 203, 18, 143, 228]
def sl2 : List Nat := [73, 21, 89, 143, 85, 229, 215, 160, 218, 202, 148, 250, 31, 10, 99, 247]
def sl3 : List Nat := [250, 99, 106, 40, 37, 179, 57, 201, 64, 102, 138, 49, 87, 36, 77, 23]
def sl4 : List Nat := [36, 114, 64, 35, 105, 102, 179, 250, 110, 210, 117, 50, 136, 66, 91, 108]
def sl5 : List Nat := [200, 22, 119, 188, 155, 122, 201, 59, 37, 2, 121, 146, 176, 38, 25, 150]
def sl6 : List Nat := [198, 47, 225, 9, 247, 94, 237, 195, 204, 121, 57, 93, 132, 249, 207, 93]
def sl7 : List Nat := [209, 135, 108, 15, 121, 196, 48, 10, 180, 85, 148, 173, 214, 111, 244, 31]
def sl8 : List Nat := [253, 227, 186, 210, 5, 229, 208, 215, 53, 71, 150, 78, 241, 254, 55, 241]
def sl9 : List Nat := [189, 110, 124, 61, 242, 181, 119, 158, 11, 97, 33, 110, 139, 16, 182, 137]
def sl10 : List Nat := [105, 196, 224, 216, 106, 123, 4, 48, 216, 205, 183, 128, 112, 180, 197, 90]
theorem kl0_next : ((List.range 16).all fun i => fol (lit kl0) (con 0) i == lit kl1 i) = true := by rw [fol_fast]; decide +kernel
theorem kl1_next : ((List.range 16).all fun i => fol (lit kl1) (con 1) i == lit kl2 i) = true := by rw [fol_fast]; decide +kernel
theorem kl2_next : ((List.range 16).all fun i => fol (lit kl2) (con 2) i == lit kl3 i) = true := by rw [fol_fast]; decide +kernel
theorem kl3_next : ((List.range 16).all fun i => fol (lit kl3) (con 3) i == lit kl4 i) = true := by rw [fol_fast]; decide +kernel
theorem kl4_next : ((List.range 16).all fun i => fol (lit kl4) (con 4) i == lit kl5 i) = true := by rw [fol_fast]; decide +kernel
theorem kl5_next : ((List.range 16).all fun i => fol (lit kl5) (con 5) i == lit kl6 i) = true := by rw [fol_fast]; decide +kernel
theorem kl6_next : ((List.range 16).all fun i => fol (lit kl6) (con 6) i == lit kl7 i) = true := by rw [fol_fast]; decide +kernel
theorem kl7_next : ((List.range 16).all fun i => fol (lit kl7) (con 7) i == lit kl8 i) = true := by rw [fol_fast]; decide +kernel
theorem kl8_next : ((List.range 16).all fun i => fol (lit kl8) (con 8) i == lit kl9 i) = true := by rw [fol_fast]; decide +kernel
theorem kl9_next : ((List.range 16).all fun i => fol (lit kl9) (con 9) i == lit kl10 i) = true := by rw [fol_fast]; decide +kernel
theorem sl0_next : ((List.range 16).all fun i => comb (mx (wt 2 3 1 1) (trn 1 (rep box (lit sl0)))) (lit kl1) i == lit sl1 i) = true := by rw [box_fast]; decide +kernel
theorem sl1_next : ((List.range 16).all fun i => comb (mx (wt 2 3 1 1) (trn 1 (rep box (lit sl1)))) (lit kl2) i == lit sl2 i) = true := by rw [box_fast]; decide +kernel
theorem sl2_next : ((List.range 16).all fun i => comb (mx (wt 2 3 1 1) (trn 1 (rep box (lit sl2)))) (lit kl3) i == lit sl3 i) = true := by rw [box_fast]; decide +kernel
theorem sl3_next : ((List.range 16).all fun i => comb (mx (wt 2 3 1 1) (trn 1 (rep box (lit sl3)))) (lit kl4) i == lit sl4 i) = true := by rw [box_fast]; decide +kernel
theorem sl4_next : ((List.range 16).all fun i => comb (mx (wt 2 3 1 1) (trn 1 (rep box (lit sl4)))) (lit kl5) i == lit sl5 i) = true := by rw [box_fast]; decide +kernel
theorem sl5_next : ((List.range 16).all fun i => comb (mx (wt 2 3 1 1) (trn 1 (rep box (lit sl5)))) (lit kl6) i == lit sl6 i) = true := by rw [box_fast]; decide +kernel
theorem sl6_next : ((List.range 16).all fun i => comb (mx (wt 2 3 1 1) (trn 1 (rep box (lit sl6)))) (lit kl7) i == lit sl7 i) = true := by rw [box_fast]; decide +kernel
theorem sl7_next : ((List.range 16).all fun i => comb (mx (wt 2 3 1 1) (trn 1 (rep box (lit sl7)))) (lit kl8) i == lit sl8 i) = true := by rw [box_fast]; decide +kernel
theorem sl8_next : ((List.range 16).all fun i => comb (mx (wt 2 3 1 1) (trn 1 (rep box (lit sl8)))) (lit kl9) i == lit sl9 i) = true := by rw [box_fast]; decide +kernel
theorem sl9_next : ((List.range 16).all fun i => comb ((trn 1 (rep box (lit sl9)))) (lit kl10) i == lit sl10 i) = true := by rw [box_fast]; decide +kernel

theorem key0 : E (keys (ris 1) 0) (lit kl0) := e_of (by decide +kernel)
theorem key1 : E (keys (ris 1) 1) (lit kl1) := (E.fol key0 (con 0)).trans (e_of kl0_next)
theorem key2 : E (keys (ris 1) 2) (lit kl2) := (E.fol key1 (con 1)).trans (e_of kl1_next)
theorem key3 : E (keys (ris 1) 3) (lit kl3) := (E.fol key2 (con 2)).trans (e_of kl2_next)
theorem key4 : E (keys (ris 1) 4) (lit kl4) := (E.fol key3 (con 3)).trans (e_of kl3_next)
theorem key5 : E (keys (ris 1) 5) (lit kl5) := (E.fol key4 (con 4)).trans (e_of kl4_next)
theorem key6 : E (keys (ris 1) 6) (lit kl6) := (E.fol key5 (con 5)).trans (e_of kl5_next)
theorem key7 : E (keys (ris 1) 7) (lit kl7) := (E.fol key6 (con 6)).trans (e_of kl6_next)
theorem key8 : E (keys (ris 1) 8) (lit kl8) := (E.fol key7 (con 7)).trans (e_of kl7_next)
theorem key9 : E (keys (ris 1) 9) (lit kl9) := (E.fol key8 (con 8)).trans (e_of kl8_next)
theorem key10 : E (keys (ris 1) 10) (lit kl10) := (E.fol key9 (con 9)).trans (e_of kl9_next)
theorem sta0 : E (st (ris 1) (ris 17) 0) (lit sl0) := e_of (by decide +kernel)
theorem sta1 : E (st (ris 1) (ris 17) 1) (lit sl1) := (((((sta0).rep).trn 1).mixF 1).comb key1).trans (e_of sl0_next)
theorem sta2 : E (st (ris 1) (ris 17) 2) (lit sl2) := (((((sta1).rep).trn 1).mixF 2).comb key2).trans (e_of sl1_next)
theorem sta3 : E (st (ris 1) (ris 17) 3) (lit sl3) := (((((sta2).rep).trn 1).mixF 3).comb key3).trans (e_of sl2_next)
theorem sta4 : E (st (ris 1) (ris 17) 4) (lit sl4) := (((((sta3).rep).trn 1).mixF 4).comb key4).trans (e_of sl3_next)
theorem sta5 : E (st (ris 1) (ris 17) 5) (lit sl5) := (((((sta4).rep).trn 1).mixF 5).comb key5).trans (e_of sl4_next)
theorem sta6 : E (st (ris 1) (ris 17) 6) (lit sl6) := (((((sta5).rep).trn 1).mixF 6).comb key6).trans (e_of sl5_next)
theorem sta7 : E (st (ris 1) (ris 17) 7) (lit sl7) := (((((sta6).rep).trn 1).mixF 7).comb key7).trans (e_of sl6_next)
theorem sta8 : E (st (ris 1) (ris 17) 8) (lit sl8) := (((((sta7).rep).trn 1).mixF 8).comb key8).trans (e_of sl7_next)
theorem sta9 : E (st (ris 1) (ris 17) 9) (lit sl9) := (((((sta8).rep).trn 1).mixF 9).comb key9).trans (e_of sl8_next)
theorem sta10 : E (st (ris 1) (ris 17) 10) (lit sl10) := (((((sta9).rep).trn 1).mixF 10).comb key10).trans (e_of sl9_next)
theorem example_enc : E (enc (ris 1) (ris 17)) (lit sl10) := sta10
theorem ris_by (s : Nat) : By (ris s) := fun _ => Nat.mod_lt _ (by decide)
end Go.Proofs.Ytgbcddhgeepjgaa.AE
